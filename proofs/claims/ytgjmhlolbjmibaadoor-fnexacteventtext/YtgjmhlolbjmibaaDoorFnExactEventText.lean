/- EventText of the program answers as the specification's, code and text, and leaves its argument alone; the tables of the library that stand on the row are tied by the card, and are not read. For every argument; no condition. -/
import Derived.Test.YtgjmhlolbjmibaaDoorRows
import Derived.WalkKit
import Derived.ProofKit
import Derived.OpenShut
import Derived.ChangeOld
import Derived.Below
import Derived.Test.YtgjmhlolbjmibaaDoorOpen
import Derived.OpenVars
import Derived.LaidMore
import Derived.Stop.Joined
import Derived.SevenTiedAt
import Derived.Lay
import Derived.MakeChecks
import Derived.Test.YtgjmhlolbjmibaaDoorEvI
import Derived.Test.YtgjmhlolbjmibaaDoorEqText
import Derived.Test.YtgjmhlolbjmibaaDoorEventC
import Derived.Test.YtgjmhlolbjmibaaDoorWin
import Derived.Test.YtgjmhlolbjmibaaDoorOdd
import Derived.Test.YtgjmhlolbjmibaaDoorCards
import Derived.Test.YtgjmhlolbjmibaaDoorTie
namespace Go.Proofs.YtgjmhlolbjmibaaDoor.fnExactEventText
open Go.ChangeShapes Go.WideShapes Go.ChangeAt Go.RowKit
set_option linter.unusedVariables false

theorem own : ownKnob Tryd.prog.godebug = none := by kernel_rfl
theorem laidOut : laidOutB Tryd.prog = true := by kernel_rfl

/-! The walk. -/
set_option maxRecDepth 4000 in
set_option maxHeartbeats 4000000 in
theorem walk (x0 : _) (cs0 : List Value) (w : World) (r0 : Cod.rep eventC w x0 cs0) :
    Calls Tryd.prog 3 #[.agg cs0.toArray] w fun e w' => e = .returned (.bool true) ∧ Below w.heap.size w w' := by
  obtain ⟨p04, q04, rfl, rr04⟩ := event_rep r0
  replace r0 := event_mk rr04
  clear rr04
  change Calls _ _ #[.agg #[.int .i64 x0.1, .int .i64 x0.2.1, .int .i64 x0.2.2.1, .slice p04 x0.2.2.2.1.length q04, .int .i64 x0.2.2.2.2.1, .int .i64 x0.2.2.2.2.2]] _ _
  have HR0 : Hid (eventC.rep w x0 _) := r0
  clear r0
  by_cases hs0 : eventN x0 ≤ 1048576
  · have ht0 := eventT_le x0
    go_enter Tryd.func3, Tryd.ntmps3
    go_wp2_with fail
    refine (szEvent_k x0 _ _ _ (eventC.keep HR0.out (alloc_below _ _)) (by omega) (by omega)).mono ?_
    rintro e w1 ⟨rfl, hb1⟩
    have sP0 := (Has.new hb1).win
    have z1 : Hid (w.heap.size + 1 ≤ w1.heap.size) := size_lt hb1
    replace hb1 := Below.res hb1
    have BW := hb1
    clear hb1
    rw [szR, if_pos (by omega)]
    have csP00 := sP0.now 0 _ rfl
    have csP01 := sP0.now 1 _ rfl
    have csP02 := sP0.now 2 _ rfl
    have csP03 := sP0.now 3 _ rfl
    have csP04 := sP0.now 4 _ rfl
    have csP05 := sP0.now 5 _ rfl
    have zsP0 := Has.lt sP0.now
    go_wp2_with fail
    refine (toEvent_k x0 _ _ (eventC.keep HR0.out BW) (by omega)).mono ?_
    rintro e w2 ⟨us0, fp0, rfl, k0, hb2⟩
    obtain ⟨pc04, qc04, es, -⟩ := event_rep (eventC.toRep k0)
    subst es
    have gk0 : Hid (∀ k, k ∈ _ → w1.heap.size ≤ k ∧ k < w2.heap.size) := fun k hk => ⟨by have h := (k0.ins k hk).1; exact h, (k0.ins k hk).2⟩
    replace k0 := k0.win (Nat.le_refl _) gk0.out
    have z2 : Hid (w1.heap.size ≤ w2.heap.size) := hb2.size
    replace sP0 := sP0.stay hb2
    replace BW := Below.step BW hb2
    clear hb2 csP00 csP01 csP02 csP03 csP04 csP05 zsP0
    go_wp2_with fail
    refine (specEv_k x0 _ _ (eventC.toRep k0.now)).mono ?_
    rintro e w3 ⟨rfl, hb3⟩
    have z3 : Hid (w2.heap.size ≤ w3.heap.size) := hb3.size
    replace sP0 := sP0.stay hb3
    replace k0 := k0.stay hb3
    replace BW := Below.step BW hb3
    clear hb3
    clear k0
    have csP00 := sP0.now 0 _ rfl
    have csP01 := sP0.now 1 _ rfl
    have csP02 := sP0.now 2 _ rfl
    have csP03 := sP0.now 3 _ rfl
    have csP04 := sP0.now 4 _ rfl
    have csP05 := sP0.now 5 _ rfl
    have zsP0 := Has.lt sP0.now
    go_wp2_with fail
    refine (toEvent_k x0 _ _ (eventC.keep (eventC.keep HR0.out BW) (alloc_below _ _)) (by omega)).mono ?_
    rintro e w4 ⟨us1, fp1, rfl, k1, hb4⟩
    obtain ⟨pc14, qc14, es, -⟩ := event_rep (eventC.toRep k1)
    subst es
    have gk1 : Hid (∀ k, k ∈ _ → (w3.heap.size + 1) ≤ k ∧ k < w4.heap.size) := fun k hk => ⟨by have h := (k1.ins k hk).1; rw [size_alloc] at h; exact h, (k1.ins k hk).2⟩
    replace k1 := k1.win (Nat.le_refl _) gk1.out
    have sA := (Has.new hb4).win
    have z4 : Hid (w3.heap.size + 1 ≤ w4.heap.size) := size_lt hb4
    replace hb4 := Below.res hb4
    replace sP0 := sP0.stay hb4
    replace BW := Below.step BW hb4
    clear hb4 csP00 csP01 csP02 csP03 csP04 csP05 zsP0
    go_wp2_with fail
    refine (implEv_k x0 _ _ (eventC.toRep (k1.stay (alloc_below _ _)).now)).mono ?_
    rintro e w5 ⟨rfl, hb5⟩
    have sX0 := (Has.new hb5).win
    have z5 : Hid (w4.heap.size + 1 ≤ w5.heap.size) := size_lt hb5
    replace hb5 := Below.res hb5
    replace sP0 := sP0.stay hb5
    replace sA := sA.stay hb5
    replace k1 := k1.stay hb5
    replace BW := Below.step BW hb5
    clear hb5
    have csA0 := sA.now 0 _ rfl
    have csA1 := sA.now 1 _ rfl
    have zsA := Has.lt sA.now
    go_wp2_with fail
    refine (eqText_c _ _ _).mono ?_
    rintro e w6 ⟨rfl, hb6⟩
    have sB := (Has.new hb6).win
    have z6 : Hid (w5.heap.size + 1 ≤ w6.heap.size) := size_lt hb6
    replace hb6 := Below.res hb6
    replace sP0 := sP0.stay hb6
    replace sA := sA.stay hb6
    replace k1 := k1.stay hb6
    replace sX0 := sX0.stay hb6
    replace BW := Below.step BW hb6
    clear hb6 csA0 csA1 zsA
    have gsX0 := HW.at (sX0.now 0 _ rfl)
    have gsX1 := HW.at (sX0.now 1 _ rfl)
    have gsX2 := HW.at (sX0.now 2 _ rfl)
    have gsX3 := HW.at (sX0.now 3 _ rfl)
    have gsX4 := HW.at (sX0.now 4 _ rfl)
    have gsX5 := HW.at (sX0.now 5 _ rfl)
    have gsP0 := HW.at (sP0.now 0 _ rfl)
    have gsP1 := HW.at (sP0.now 1 _ rfl)
    have gsP2 := HW.at (sP0.now 2 _ rfl)
    have gsP3 := HW.at (sP0.now 3 _ rfl)
    have gsP4 := HW.at (sP0.now 4 _ rfl)
    have gsP5 := HW.at (sP0.now 5 _ rfl)
    have hne := HW.some w6
    go_wp2_with fail
    refine wp_region_odd_seg 2 3 rfl (by kernel_rfl) (by kernel_rfl) (by kernel_rfl) (by kernel_rfl) ?_
    simp only [List.take_succ_cons, List.take_zero]
    repeat (go_big_quiet_step (fail))
    refine wpQuiet_nil ?_
    refine wpG_call (k := 2) rfl (by kernel_rfl) (by kernel_rfl) (by go_simp) 7 _ #[.agg #[.int .i64 x0.1, .int .i64 x0.2.1, .int .i64 x0.2.2.1, .slice p04 x0.2.2.2.1.length q04, .int .i64 x0.2.2.2.2.1, .int .i64 x0.2.2.2.2.2]] (fun w => by go_simp) rfl ?_
    rintro _ ⟨sz1, rfl⟩
    refine (toEvent_k x0 _ _ (eventC.keep (eventC.keep HR0.out BW) sz1.h) (by omega)).mono ?_
    rintro e wz ⟨uz, fz, rfl, kz, hbz⟩
    obtain ⟨pz4, qz4, es, -⟩ := event_rep (eventC.toRep kz)
    subst es
    refine ⟨_, rfl, ⟨⟨_, hbz⟩, rfl⟩, ?_⟩
    have hbx := Below.step sz1.h hbz
    refine wpG_call (k := 3) rfl (by kernel_rfl) (by kernel_rfl) (by go_simp) 10 _ #[.agg #[.int .i64 x0.1, .int .i64 x0.2.1, .int .i64 x0.2.2.1, .slice pc14 x0.2.2.2.1.length qc14, .int .i64 x0.2.2.2.2.1, .int .i64 x0.2.2.2.2.2], .agg #[.int .i64 x0.1, .int .i64 x0.2.1, .int .i64 x0.2.2.1, .slice pz4 x0.2.2.2.1.length qz4, .int .i64 x0.2.2.2.2.1, .int .i64 x0.2.2.2.2.2]] (fun w => by go_simp) rfl ?_
    rintro _ ⟨sz2, rfl⟩
    refine (eqEvent_k x0 _ _ _ (eventC.toRep ((k1.stay hbx).stay sz2.h).now) (eventC.toRep (eventC.stay kz sz2.h))).mono ?_
    rintro e wy ⟨rfl, hby⟩
    refine ⟨_, rfl, ⟨⟨_, hby⟩, rfl⟩, ?_⟩
    replace hby := Below.step (Below.step hbx sz2.h) hby
    have hney := HW.some wy
    refine wpG_next 4 1 0 (by decide) (by kernel_rfl) (by kernel_rfl) (by kernel_rfl) ?_
    simp only [List.drop_succ_cons, List.drop_zero, List.take_succ_cons, List.take_zero]
    go_simp
    repeat (go_big_quiet_step (fail))
    refine wpQuiet_nil ?_
    refine wpG_end rfl ?_
    rintro _ ⟨sz3, rfl⟩
    have hb7 := Below.step hby sz3.h
    clear hby hbx hbz kz hne hney gsX0 gsX1 gsX2 gsX3 gsX4 gsX5 gsP0 gsP1 gsP2 gsP3 gsP4 gsP5
    generalize sz3.w = w7 at *
    clear sz3 sz2 sz1
    have z7 : Hid (w6.heap.size ≤ w7.heap.size) := hb7.size
    replace sP0 := sP0.stay hb7
    replace sA := sA.stay hb7
    replace k1 := k1.stay hb7
    replace sX0 := sX0.stay hb7
    replace sB := sB.stay hb7
    replace BW := Below.step BW hb7
    clear hb7
    go_wp2
    go_ret
    exact ⟨rfl, BW⟩
  · go_enter Tryd.func3, Tryd.ntmps3
    go_wp2_with fail
    refine (szEvent_k x0 _ _ _ (eventC.keep HR0.out (alloc_below _ _)) (by omega) (by omega)).mono ?_
    rintro e w1 ⟨rfl, hb1⟩
    have sP0 := (Has.new hb1).win
    have z1 : Hid (w.heap.size + 1 ≤ w1.heap.size) := size_lt hb1
    replace hb1 := Below.res hb1
    have BW := hb1
    clear hb1
    rw [szR, if_neg (by omega)]
    go_wp2
    go_ret
    exact ⟨rfl, BW⟩

/-! The row's step. -/
/-- The start meets the condition. -/
theorem door_met (os : Os) (args : Array Value) : laidMetH Tryd.prog Rows.fnExactEventTextRow.laid ((World.laidAll Tryd.prog os Rows.fnExactEventTextRow.laid).forCall (fun _ _ => 0) ⟨#[], args, []⟩).memory :=
  by rw [MakeChecks.laidMetH_plain _ _ _ (by kernel_rfl)]; exact laidMet_laidAll _ (by kernel_rfl) (by kernel_rfl)

set_option maxRecDepth 100000 in
set_option maxHeartbeats 1000000 in
theorem lifted (os : Os) (started : os.Started) (H : Type) (enc : TypeId × Value → H) :
    ReturnsInHanded {} Tryd.checked os 3 .any (fun w args => (Rows.fnExactEventTextSpec.pre enc Tryd.prog Tryd.f3 [] false w args ∧ laidMetH Tryd.prog Rows.fnExactEventTextRow.laid w) ∧ sizedMet enc Tryd.prog Tryd.f3 (OpenSpec.ofChange Rows.fnExactEventTextSpec) false w args) (Rows.fnExactEventTextSpec.post enc Tryd.prog Tryd.f3 false true false false) := by
  refine returnsInHanded_of_change_and (C := Tryd.checked) (X := fun w _ => laidMetH Tryd.prog Rows.fnExactEventTextRow.laid w) (fun _ _ _ hh h => h.of_heap hh) own started (by kernel_rfl) Tryd.func3
    (ChangeSpec.witness_shaped (enc := enc) (C := Tryd.checked) (os := os) (X := fun w _ => laidMetH Tryd.prog Rows.fnExactEventTextRow.laid w) false (World.laidAll Tryd.prog os Rows.fnExactEventTextRow.laid) #[.agg #[.int .i64 0, .int .i64 0, .int .i64 0, .slice none 0 0, .int .i64 0, .int .i64 0]] 8 (World.laidAll_os _ _ _) (World.shaped_of_ZipB (by kernel_rfl) (by kernel_rfl)) (by kernel_rfl) (by kernel_rfl) (by kernel_rfl) (door_met os _)) ?_
  intro W base args ds gs before hval0 hW hcnd _ hL _
  have hval : ∀ (j : Nat) t v, Tryd.f3.params[j]? = some t → args[j]? = some v → Value.okWide Tryd.prog W .any base t v := hval0
  have hW' := hW
  obtain ⟨p, q, hA0, hV, rfl, hfz, hnd⟩ := hW
  have hA : DataW.TrodAll enc Tryd.prog W 0 (fun _ => true) true Tryd.f3.params.toList args.toList ds p := hA0
  rw [Tryd.params3] at hA hval
  obtain ⟨v0, vs0, d0, ds0, s0, t0, hargs, rfl, rfl, h0, m0⟩ := trodAll_cons hA
  obtain ⟨rfl, rfl, rfl⟩ := trodAll_nil m0
  obtain rfl : args = #[v0] := by cases args; simp_all
  obtain ⟨rfl, rfl⟩ := trodVars_none hV
  obtain ⟨cs0, rfl, -⟩ := okWide_struct Tryd.underlying24 (hval 0 24 v0 rfl rfl)
  have k0 := h0
  have lt0 : ∀ x ∈ s0, x.block < W.heap.size := by obtain ⟨m, hm⟩ := k0; exact DataW.trod_lt m _ _ _ hm
  obtain ⟨x0, r0⟩ : ∃ x, Cod.rep eventC W x cs0.toList := by obtain ⟨fuel, hf⟩ := h0; exact (opens_struct (c := eventC) Tryd.underlying24 (by kernel_rfl) (opensF_cons rfl (by kernel_rfl) (opens_int Tryd.underlying2) (opensF_cons rfl (by kernel_rfl) (opens_int Tryd.underlying2) (opensF_cons rfl (by kernel_rfl) (opens_int Tryd.underlying2) (opensF_cons rfl (by kernel_rfl) (opens_bytes Tryd.underlying22 Tryd.underlying5 (by kernel_rfl)) (opensF_cons rfl (by kernel_rfl) (opens_int Tryd.underlying2) (opensF_one rfl (by kernel_rfl) (opens_int Tryd.underlying2)))))))) _ _ _ hf
  clear hA0 hval0
  refine (walk x0 cs0.toList W r0).mono fun e W' ⟨he, bel⟩ => ?_
  subst he
  exact ⟨_, rfl, _, _, _, [], _, [], hW', trodAll_mk1 (shut_bool Tryd.underlying4 _), (trodAll_cons_mk (Below.trod laidOut (by kernel_rfl) (of_decide_eq_true (by kernel_rfl)) k0 bel lt0) trodAll_mk0), rfl, bel.frame _, fun h => by cases h⟩

theorem over : Rows.fnExactEventTextRow.holds Tryd.pinned (OpenSpec.ofChange Rows.fnExactEventTextSpec) :=
  OpenClaim.holds_of_wide 3 Tryd.f3 rfl rfl rfl rfl rfl rfl rfl ⟨rfl, rfl, rfl, rfl, rfl⟩ rfl rfl rfl rfl rfl (by kernel_rfl) Tryd.func3 (by kernel_rfl)
    (of_decide_eq_true (by kernel_rfl)) (by unfold Func.isWrapper; first | (rw [if_pos (by decide +kernel)]; kernel_rfl) | (rw [if_neg (by decide +kernel)]; exact ⟨rfl, rfl⟩))
    (fun os started H enc _ => lifted os started H enc)

theorem plain (f : FuncId) (fn : Func) (hf : Tryd.pinned.checked.prog.funcNamed "loop.example/g00375/laws.FnExactEventText" = some f) (hfn : Tryd.pinned.checked.prog.funcs[f]? = some fn) :
    false = Tryd.pinned.checked.prog.looks [] ∧ ∀ (j : Nat) t, fn.params[j]? = some t → Tryd.pinned.checked.prog.wantsStandIn t = false := by
  obtain rfl : f = 3 := Option.some.inj ((show Tryd.prog.funcNamed "loop.example/g00375/laws.FnExactEventText" = some 3 by kernel_rfl).symm.trans hf) |>.symm
  obtain rfl : fn = Tryd.f3 := (Option.some.inj (Tryd.func3.symm.trans hfn)).symm
  refine ⟨by kernel_rfl, fun j t ht => ?_⟩
  rw [Tryd.params3] at ht
  have hm : t ∈ [24] := by simpa using Array.mem_of_getElem? ht
  have hall : ([24].all fun u => !Tryd.prog.wantsStandIn u) = true := by kernel_rfl
  exact (show Tryd.prog.wantsStandIn t = false by simpa using List.all_eq_true.1 hall t hm)
/-- The card. -/
theorem card : Rows.FnExactEventTextCardSaid :=
  Claim7.holds_tied_plain_at .later [] _ _ _ _ over (fun _ h => by cases h) (by kernel_rfl) (fun _ h => by cases h) fnExactEventText_row_tie rfl ⟨rfl, rfl⟩ (by kernel_rfl) rfl plain (by kernel_rfl)
end Go.Proofs.YtgjmhlolbjmibaaDoor.fnExactEventText

namespace Go.Proofs.YtgjmhlolbjmibaaDoor
theorem fnExactEventText_holds : Rows.FnExactEventTextCardSaid := fnExactEventText.card
end Go.Proofs.YtgjmhlolbjmibaaDoor
