/- BindOf of the program answers as the specification's, code and bytes, leaves its arguments alone, and its answer owns its memory, behind another call too; the two tables of the program's text are tied to it by the card. For every argument; no condition. The frame is the one that the guide's program writes; the walk and its contracts are ours. -/
import Derived.Test.YtdbpnibcblelbabDoorRows
import Derived.WalkKit
import Derived.ProofKit
import Derived.OpenShut
import Derived.ShutString
import Derived.ChangeOld
import Derived.Below
import Derived.Test.YtdbpnibcblelbabDoorAuthI
import Derived.Test.YtdbpnibcblelbabDoorJoint5
import Derived.Test.YtdbpnibcblelbabDoorLaid
import Derived.Test.YtdbpnibcblelbabDoorCards
import Derived.Test.YtdbpnibcblelbabDoorTie
import Derived.OpenVars
import Derived.LaidMore
import Derived.Stop.Joined
import Derived.SevenTiedAt
namespace Go.Proofs.YtdbpnibcblelbabDoor.fnExactBindOf
open Go.ChangeShapes Go.WideShapes Go.ChangeAt Go.RowKit
open Go.ChangeMaps (open_string shut_string)
set_option linter.unusedVariables false

theorem own : ownKnob Tryd.prog.godebug = none := by kernel_rfl
theorem laidOut : laidOutB Tryd.prog = true := by kernel_rfl

def IsRow (k : IntKind) (w : World) (a : Option Addr) (len cap : Nat) (zs : List Int) : Prop :=
  (a = none ∧ len = 0 ∧ cap = 0 ∧ zs = []) ∨
  ∃ x, a = some x ∧ len ≤ cap ∧ cap ≤ maxLen ∧ zs.length = cap ∧ (∀ i, i < zs.length → w.cell? (x.add i) = some (.int k (zs.getD i 0))) ∧ ∀ n ∈ zs, (Lit.int k n).wf = true


/-! The walk. -/
theorem walk (a0 : Option Addr) (len0 cap0 : Nat) (z0 : List Int) (w : World) (w0 : IsRow .u8 w a0 len0 cap0 z0) (hT : Tabs w) :
    Calls Tryd.prog 3 #[.slice a0 len0 cap0] w fun e w' => e = .returned (.bool true) ∧ Below w.heap.size w w' := by
  obtain ⟨bs0, rfl, r0⟩ := rd_of w0
  clear w0
  by_cases hl0 : 1048576 < bs0.length
  · go_enter Tryd.func3, Tryd.ntmps3
    go_wp2
    go_ret
    exact ⟨rfl, Below.refl _ _⟩
  replace hl0 : bs0.length ≤ 1048576 := by omega
  have hlen := biD_len bs0
  go_enter Tryd.func3, Tryd.ntmps3
  go_wp2_with fail
  refine (toByteS_c _ _ bs0 _ r0 hl0).mono ?_
  rintro e w1 ⟨u0, rfl, k0, hb1⟩
  obtain ⟨p0, q0, rfl, -⟩ := k0.rd
  have z1 : Hid (w.heap.size ≤ w1.heap.size) := hb1.size
  have gk0 : Hid (∀ k, (Value.slice p0 bs0.length q0).ownBlock = some k → w.heap.size ≤ k ∧ k < w1.heap.size) := fun k e => ⟨by have h := k0.ge k e; omega, k0.lt k e⟩
  have BW := hb1
  clear hb1
  go_wp2_with fail
  refine (specBi_c p0 q0 bs0 _ (Rd.own k0)).mono ?_
  rintro e w2 ⟨us, rfl, ks, hb2⟩
  obtain ⟨ps, qs, rfl, -⟩ := ks.rd
  have z2 : Hid (w1.heap.size ≤ w2.heap.size) := hb2.size
  have gks : Hid (∀ k, (Value.slice ps ((biD bs0).2).length qs).ownBlock = some k → w1.heap.size ≤ k ∧ k < w2.heap.size) := fun k e => ⟨by have h := ks.ge k e; omega, ks.lt k e⟩
  replace k0 := k0.stay hb2
  replace BW := Below.step BW hb2
  clear hb2
  clear k0
  go_wp2_with fail
  refine (toByteS_c _ _ bs0 _ ((r0.keep BW).keep (alloc_below _ _)) hl0).mono ?_
  rintro e w3 ⟨u1, rfl, k1, hb3⟩
  obtain ⟨p1, q1, rfl, -⟩ := k1.rd
  have z3 : Hid (w2.heap.size < w3.heap.size) := size_lt hb3
  have gk1 : Hid (∀ k, (Value.slice p1 bs0.length q1).ownBlock = some k → w2.heap.size < k ∧ k < w3.heap.size) := fun k e => ⟨by have h := k1.ge k e; rw [size_alloc] at h; omega, k1.lt k e⟩
  have sA := Has.new hb3
  replace hb3 := Below.res hb3
  replace ks := ks.stay hb3
  replace BW := Below.step BW hb3
  clear hb3
  go_wp2_with fail
  refine (implBi_c p1 q1 bs0 _ (Rd.own k1) (hT.keep BW)).mono ?_
  rintro e w4 ⟨ug, rfl, kg, hb4⟩
  obtain ⟨pg, qg, rfl, -⟩ := kg.rd
  have z4 : Hid (w3.heap.size ≤ w4.heap.size) := hb4.size
  have gkg : Hid (∀ k, (Value.slice pg ((biD bs0).2).length qg).ownBlock = some k → w3.heap.size ≤ k ∧ k < w4.heap.size) := fun k e => ⟨by have h := kg.ge k e; omega, kg.lt k e⟩
  replace ks := ks.stay hb4
  replace sA := sA.keep hb4
  replace k1 := k1.stay hb4
  replace BW := Below.step BW hb4
  clear hb4
  have csA0 := sA 0 _ rfl
  have csA1 := sA 1 _ rfl
  have zsA := sA.lt
  go_wp2_with fail
  refine (eqBytes2_c _ _ _ pg ps qg qs ((biD bs0).2) _ (kg.stay (alloc_below _ _)) (ks.stay (alloc_below _ _))).mono ?_
  rintro e w5 ⟨rfl, hb5⟩
  have z5 : Hid (w4.heap.size < w5.heap.size) := size_lt hb5
  have sB := Has.new hb5
  replace hb5 := Below.res hb5
  replace ks := ks.stay hb5
  replace sA := sA.keep hb5
  replace k1 := k1.stay hb5
  replace kg := kg.stay hb5
  replace BW := Below.step BW hb5
  clear hb5 csA0 csA1 zsA
  go_wp2_with fail
  refine (toByteS_c _ _ bs0 _ (r0.keep BW) hl0).mono ?_
  rintro e w6 ⟨u2, rfl, k2, hb6⟩
  obtain ⟨p2, q2, rfl, -⟩ := k2.rd
  have z6 : Hid (w5.heap.size ≤ w6.heap.size) := hb6.size
  have gk2 : Hid (∀ k, (Value.slice p2 bs0.length q2).ownBlock = some k → w5.heap.size ≤ k ∧ k < w6.heap.size) := fun k e => ⟨by have h := k2.ge k e; omega, k2.lt k e⟩
  replace ks := ks.stay hb6
  replace sA := sA.keep hb6
  replace k1 := k1.stay hb6
  replace kg := kg.stay hb6
  replace sB := sB.keep hb6
  replace BW := Below.step BW hb6
  clear hb6
  go_wp2_with fail
  refine (eqByteS_c p1 p2 q1 q2 bs0 _ (Rd.own k1) (Rd.own k2)).mono ?_
  rintro e w7 ⟨rfl, hb7⟩
  have z7 : Hid (w6.heap.size ≤ w7.heap.size) := hb7.size
  replace ks := ks.stay hb7
  replace sA := sA.keep hb7
  replace k1 := k1.stay hb7
  replace kg := kg.stay hb7
  replace sB := sB.keep hb7
  replace k2 := k2.stay hb7
  replace BW := Below.step BW hb7
  clear hb7
  clear k2
  go_wp2_with fail
  refine (markByteS_c1 _ _ bs0 _ k1 hl0).mono ?_
  rintro e w8 ⟨rfl, x1, hg⟩
  replace ks := ks.other hg (fun k hk e => by have h1 := gk1.out k e; have h2 := gks.out k hk; have := z1.out; have := z2.out; have := z3.out; have := z4.out; have := z5.out; have := z6.out; have := z7.out; omega)
  replace sA := sA.other hg (fun e => by have h1 := gk1.out _ e; have := z1.out; have := z2.out; have := z3.out; have := z4.out; have := z5.out; have := z6.out; have := z7.out; omega)
  replace kg := kg.other hg (fun k hk e => by have h1 := gk1.out k e; have h2 := gkg.out k hk; have := z1.out; have := z2.out; have := z3.out; have := z4.out; have := z5.out; have := z6.out; have := z7.out; omega)
  replace sB := sB.other hg (fun e => by have h1 := gk1.out _ e; have := z1.out; have := z2.out; have := z3.out; have := z4.out; have := z5.out; have := z6.out; have := z7.out; omega)
  have z8 : Hid (w7.heap.size ≤ w8.heap.size) := hg.size
  replace BW := BW.grown hg BW.size (fun k e => by have h1 := gk1.out k e; have := z1.out; have := z2.out; have := z3.out; have := z4.out; have := z5.out; have := z6.out; have := z7.out; omega)
  have gx1 := gk1
  clear hg k1 gk1
  clear x1
  have csA0 := sA 0 _ rfl
  have csA1 := sA 1 _ rfl
  have zsA := sA.lt
  have csB0 := sB 0 _ rfl
  have csB1 := sB 1 _ rfl
  have zsB := sB.lt
  go_wp2_with fail
  refine (eqBytes2_c _ _ _ pg ps qg qs ((biD bs0).2) _ kg ks).mono ?_
  rintro e w9 ⟨rfl, hb9⟩
  have z9 : Hid (w8.heap.size ≤ w9.heap.size) := hb9.size
  replace ks := ks.stay hb9
  replace sA := sA.keep hb9
  replace kg := kg.stay hb9
  replace sB := sB.keep hb9
  replace BW := Below.step BW hb9
  clear hb9 csA0 csA1 zsA csB0 csB1 zsB
  have csB0 := sB 0 _ rfl
  have csB1 := sB 1 _ rfl
  have zsB := sB.lt
  go_wp2_with fail
  refine (markBytes1_c _ _ _ ((biD bs0).2) _ kg hlen).mono ?_
  rintro e w10 ⟨rfl, km, hg⟩
  replace ks := ks.other hg (fun k hk e => by have h1 := gkg.out k e; have h2 := gks.out k hk; have := z1.out; have := z2.out; have := z3.out; have := z4.out; have := z5.out; have := z6.out; have := z7.out; have := z8.out; have := z9.out; omega)
  replace sA := sA.other hg (fun e => by have h1 := gkg.out _ e; have := z1.out; have := z2.out; have := z3.out; have := z4.out; have := z5.out; have := z6.out; have := z7.out; have := z8.out; have := z9.out; omega)
  replace sB := sB.other hg (fun e => by have h1 := gkg.out _ e; have := z1.out; have := z2.out; have := z3.out; have := z4.out; have := z5.out; have := z6.out; have := z7.out; have := z8.out; have := z9.out; omega)
  have z10 : Hid (w9.heap.size ≤ w10.heap.size) := hg.size
  replace BW := BW.grown hg BW.size (fun k e => by have h1 := gkg.out k e; have := z1.out; have := z2.out; have := z3.out; have := z4.out; have := z5.out; have := z6.out; have := z7.out; have := z8.out; have := z9.out; omega)
  have gkm := gkg
  clear hg kg gkg csB0 csB1 zsB
  have csB0 := sB 0 _ rfl
  have csB1 := sB 1 _ rfl
  have zsB := sB.lt
  go_wp2_with fail
  refine (heldBytes1_c _ _ pg qg ((biD bs0).2).length _ km hlen).mono ?_
  rintro e w11 ⟨rfl, hb11⟩
  have z11 : Hid (w10.heap.size ≤ w11.heap.size) := hb11.size
  replace ks := ks.stay hb11
  replace sA := sA.keep hb11
  replace sB := sB.keep hb11
  replace km := km.stay hb11
  replace BW := Below.step BW hb11
  clear hb11 csB0 csB1 zsB
  go_wp2_with fail
  refine (toByteS_c _ _ bs0 _ (r0.keep BW) hl0).mono ?_
  rintro e w12 ⟨u3, rfl, k3, hb12⟩
  obtain ⟨p3, q3, rfl, -⟩ := k3.rd
  have z12 : Hid (w11.heap.size ≤ w12.heap.size) := hb12.size
  have gk3 : Hid (∀ k, (Value.slice p3 bs0.length q3).ownBlock = some k → w11.heap.size ≤ k ∧ k < w12.heap.size) := fun k e => ⟨by have h := k3.ge k e; omega, k3.lt k e⟩
  replace ks := ks.stay hb12
  replace sA := sA.keep hb12
  replace sB := sB.keep hb12
  replace km := km.stay hb12
  replace BW := Below.step BW hb12
  clear hb12
  go_wp2_with fail
  refine (implBi_c p3 q3 bs0 _ (Rd.own k3) (hT.keep BW)).mono ?_
  rintro e w13 ⟨uh, rfl, kh, hb13⟩
  obtain ⟨ph, qh, rfl, -⟩ := kh.rd
  have z13 : Hid (w12.heap.size ≤ w13.heap.size) := hb13.size
  have gkh : Hid (∀ k, (Value.slice ph ((biD bs0).2).length qh).ownBlock = some k → w12.heap.size ≤ k ∧ k < w13.heap.size) := fun k e => ⟨by have h := kh.ge k e; omega, kh.lt k e⟩
  replace ks := ks.stay hb13
  replace sA := sA.keep hb13
  replace sB := sB.keep hb13
  replace km := km.stay hb13
  replace k3 := k3.stay hb13
  replace BW := Below.step BW hb13
  clear hb13
  clear k3
  have csA0 := sA 0 _ rfl
  have csA1 := sA 1 _ rfl
  have zsA := sA.lt
  go_wp2_with fail
  refine (eqBytes2_c _ _ _ ph ps qh qs ((biD bs0).2) _ (kh.stay (alloc_below _ _)) (ks.stay (alloc_below _ _))).mono ?_
  rintro e w14 ⟨rfl, hb14⟩
  have z14 : Hid (w13.heap.size < w14.heap.size) := size_lt hb14
  have sC := Has.new hb14
  replace hb14 := Below.res hb14
  replace ks := ks.stay hb14
  replace sA := sA.keep hb14
  replace sB := sB.keep hb14
  replace km := km.stay hb14
  replace kh := kh.stay hb14
  replace BW := Below.step BW hb14
  clear hb14 csA0 csA1 zsA
  clear sC sA ks kh
  have csB0 := sB 0 _ rfl
  have csB1 := sB 1 _ rfl
  have zsB := sB.lt
  go_wp2_with fail
  refine (heldBytes1_c _ _ pg qg ((biD bs0).2).length _ km hlen).mono ?_
  rintro e w15 ⟨rfl, hb15⟩
  have z15 : Hid (w14.heap.size ≤ w15.heap.size) := hb15.size
  replace sB := sB.keep hb15
  replace km := km.stay hb15
  replace BW := Below.step BW hb15
  clear hb15 csB0 csB1 zsB
  go_wp2
  go_ret
  exact ⟨rfl, BW⟩

/-! The row's step. -/
/-- The door's own heap meets the condition. -/
theorem door_met (os : Os) (args : Array Value) : laidMetH Tryd.prog Rows.fnExactBindOfRow.laid ((World.doorLaid Tryd.prog 400 os).forCall (fun _ _ => 0) ⟨#[], args, []⟩).memory :=
  laidMet_of_run' 8 (by kernel_rfl) (by kernel_rfl)

set_option maxRecDepth 100000 in
theorem lifted (os : Os) (started : os.Started) (H : Type) (enc : TypeId × Value → H) :
    ReturnsInHanded {} Tryd.checked os 3 .any (fun w args => (Rows.fnExactBindOfSpec.pre enc Tryd.prog Tryd.f3 [] false w args ∧ laidMetH Tryd.prog Rows.fnExactBindOfRow.laid w) ∧ sizedMet enc Tryd.prog Tryd.f3 (OpenSpec.ofChange Rows.fnExactBindOfSpec) false w args) (Rows.fnExactBindOfSpec.post enc Tryd.prog Tryd.f3 false true false false) := by
  refine returnsInHanded_of_change_and (C := Tryd.checked) (X := fun w _ => laidMetH Tryd.prog Rows.fnExactBindOfRow.laid w) (fun _ _ _ hh h => h.of_heap hh) own started (by kernel_rfl) Tryd.func3
    (ChangeSpec.witness_shaped (enc := enc) (C := Tryd.checked) (os := os) (X := fun w _ => laidMetH Tryd.prog Rows.fnExactBindOfRow.laid w) false (World.doorLaid Tryd.prog 400 os) #[.slice none 0 0] 8 rfl (World.shaped_of_RefB (by kernel_rfl) (by kernel_rfl)) (by kernel_rfl) (by kernel_rfl) (by kernel_rfl) (door_met os _)) ?_
  intro W base args ds gs before hval0 hW hcnd _ hL _
  have hval : ∀ (j : Nat) t v, Tryd.f3.params[j]? = some t → args[j]? = some v → Value.okWide Tryd.prog W .any base t v := hval0
  have hW' := hW
  obtain ⟨p, q, hA0, hV, rfl, hfz, hnd⟩ := hW
  have hA : DataW.TrodAll enc Tryd.prog W 0 (fun _ => true) true Tryd.f3.params.toList args.toList ds p := hA0
  rw [Tryd.params3] at hA hval
  obtain ⟨v0, vs0, d0, ds0, p0, q0, hargs, rfl, rfl, h0, r0⟩ := trodAll_cons hA
  obtain ⟨rfl, rfl, rfl⟩ := trodAll_nil r0
  obtain rfl : args = #[v0] := by cases args; simp_all
  obtain ⟨v0a, v0b, v0c, v0d, v0e, v0f, v1a, v1b, v1c, v1d, v1e, v1f, rfl, -⟩ := trodVars_two hV
  obtain ⟨a0, len0, cap0, rfl⟩ := okWide_slice Tryd.underlying22 (hval 0 22 v0 rfl rfl)
  have k0 := h0
  have lt0 : ∀ x ∈ p0, x.block < W.heap.size := by obtain ⟨m, hm⟩ := k0; exact DataW.trod_lt m _ _ _ hm
  obtain ⟨z0, w0⟩ : ∃ zs, IsRow .u8 W a0 len0 cap0 zs := by
    obtain ⟨fuel, hf⟩ := h0
    rcases open_ints Tryd.underlying22 Tryd.underlying5 (by kernel_rfl) hf with ⟨hcs, _⟩ | ⟨x, l, c, zs, hcs, _, hl, hm, hz, _, hcell, hwz⟩
    · simp [Value.cells] at hcs
      obtain ⟨rfl, rfl, rfl⟩ := hcs
      exact ⟨[], .inl ⟨rfl, rfl, rfl, rfl⟩⟩
    · simp [Value.cells] at hcs
      obtain ⟨rfl, rfl, rfl⟩ := hcs
      exact ⟨zs, .inr ⟨_, rfl, hl, hm, by simpa using hz, hcell, hwz⟩⟩
  clear hA0 hval0
  refine (walk a0 len0 cap0 z0 W w0 (tabs_of hL)).mono fun e W' ⟨he, bel⟩ => ?_
  subst he
  exact ⟨_, rfl, _, _, _, [], _, _, hW', trodAll_mk1 (shut_bool Tryd.underlying4 _), (trodAll_cons_mk (Below.trod laidOut (by kernel_rfl) (of_decide_eq_true (by kernel_rfl)) k0 bel lt0) trodAll_mk0), Below.trodVars laidOut bel (by kernel_rfl) hV, bel.frame _, fun h => by cases h⟩

theorem over : Rows.fnExactBindOfRow.holds Tryd.pinned (OpenSpec.ofChange Rows.fnExactBindOfSpec) :=
  OpenClaim.holds_of_wide 3 Tryd.f3 rfl rfl rfl rfl rfl rfl rfl ⟨rfl, rfl, rfl, rfl, rfl⟩ rfl rfl rfl rfl rfl (by kernel_rfl) Tryd.func3 (by kernel_rfl)
    (of_decide_eq_true (by kernel_rfl)) (by unfold Func.isWrapper; first | (rw [if_pos (by decide +kernel)]; kernel_rfl) | (rw [if_neg (by decide +kernel)]; exact ⟨rfl, rfl⟩))
    (fun os started H enc _ => lifted os started H enc)


theorem plain (f : FuncId) (fn : Func) (hf : Tryd.pinned.checked.prog.funcNamed "loop.example/g00375/laws.FnExactBindOf" = some f) (hfn : Tryd.pinned.checked.prog.funcs[f]? = some fn) :
    false = Tryd.pinned.checked.prog.looks [] ∧ ∀ (j : Nat) t, fn.params[j]? = some t → Tryd.pinned.checked.prog.wantsStandIn t = false := by
  obtain rfl : f = 3 := Option.some.inj ((show Tryd.prog.funcNamed "loop.example/g00375/laws.FnExactBindOf" = some 3 by kernel_rfl).symm.trans hf) |>.symm
  obtain rfl : fn = Tryd.f3 := (Option.some.inj (Tryd.func3.symm.trans hfn)).symm
  refine ⟨by kernel_rfl, fun j t ht => ?_⟩
  rw [Tryd.params3] at ht
  have hm : t ∈ [22] := by simpa using Array.mem_of_getElem? ht
  have hall : ([22].all fun u => !Tryd.prog.wantsStandIn u) = true := by kernel_rfl
  exact (show Tryd.prog.wantsStandIn t = false by simpa using List.all_eq_true.1 hall t hm)
/-- The card. -/
theorem card : Rows.FnExactBindOfCardSaid :=
  Claim7.holds_tied_plain_at .later [] _ _ _ _ over (fun _ h => by cases h) (by kernel_rfl) (fun _ h => by cases h) fnExactBindOf_row_tie rfl ⟨rfl, rfl⟩ (by kernel_rfl) rfl plain (by kernel_rfl)
end Go.Proofs.YtdbpnibcblelbabDoor.fnExactBindOf

namespace Go.Proofs.YtdbpnibcblelbabDoor
theorem fnExactBindOf_holds : Rows.FnExactBindOfCardSaid := fnExactBindOf.card
end Go.Proofs.YtdbpnibcblelbabDoor
