/- WordsOf of the program answers as the specification's, code and words, and its answer owns its memory, behind another call too; the tables of the library that stand on the row are tied by the card, and are not read. For every argument; no condition. -/
import Derived.Test.YtgjmhlolbjmibaaDoorRows
import Derived.WalkKit
import Derived.ProofKit
import Derived.OpenShut
import Derived.ChangeOld
import Derived.Below
import Derived.ChangeMaps5
import Derived.Test.YtgjmhlolbjmibaaDoorOpen
import Derived.OpenVars
import Derived.LaidMore
import Derived.Stop.Joined
import Derived.SevenTiedAt
import Derived.Lay
import Derived.MakeChecks
import Derived.Test.YtgjmhlolbjmibaaDoorWordS
import Derived.Test.YtgjmhlolbjmibaaDoorTxtK
import Derived.Test.YtgjmhlolbjmibaaDoorWin
import Derived.Test.YtgjmhlolbjmibaaDoorCards
import Derived.Test.YtgjmhlolbjmibaaDoorTie
namespace Go.Proofs.YtgjmhlolbjmibaaDoor.fnExactWordsOf
open Go.ChangeShapes Go.WideShapes Go.ChangeAt Go.RowKit Go.ChangeMaps
set_option linter.unusedVariables false

theorem own : ownKnob Tryd.prog.godebug = none := by kernel_rfl
theorem laidOut : laidOutB Tryd.prog = true := by kernel_rfl

/-! The walk. -/
set_option maxRecDepth 4000 in
set_option maxHeartbeats 4000000 in
theorem walk (y0 : ByteArray) (w : World) (f0 : y0.size ≤ maxLen) :
    Calls Tryd.prog 4 #[.string y0] w fun e w' => e = .returned (.bool true) ∧ Below w.heap.size w w' := by
  by_cases hl0 : 1048576 < y0.size
  · go_enter Tryd.func4, Tryd.ntmps4
    go_wp2
    go_ret
    exact ⟨rfl, Below.refl _ _⟩
  obtain ⟨l, rfl⟩ : ∃ l, y0 = strB l := ⟨y0.data.toList, (strB_toList y0).symm⟩
  have hl : l.length ≤ 1048576 := by rw [strB_size] at hl0; omega
  have hlen : (wordsL l).length ≤ 1048577 := by have := wordsL_len l; omega
  have hsp := fun w => specWo_c l w hl
  have him := fun w => implWo_c l w hl
  generalize wordsL l = L at *
  clear f0 hl
  go_enter Tryd.func4, Tryd.ntmps4
  go_wp2_with fail
  refine (hsp _).mono ?_
  rintro e w1 ⟨vs, rfl, ks, hb1⟩
  obtain ⟨ps, qs, rfl, -⟩ := ks.rd
  have gks : Hid (∀ k, k ∈ _ → w.heap.size ≤ k ∧ k < w1.heap.size) := fun k hk => ⟨by have h := (ks.ins k hk).1; exact h, (ks.ins k hk).2⟩
  replace ks := ks.win (Nat.le_refl _) gks.out
  have z1 : Hid (w.heap.size ≤ w1.heap.size) := hb1.size
  have BW := hb1
  clear hb1
  go_wp2_with fail
  refine (him _).mono ?_
  rintro e w2 ⟨vg, rfl, kg, hb2⟩
  obtain ⟨pg, qg, rfl, -⟩ := kg.rd
  have gkg : Hid (∀ k, k ∈ _ → (w1.heap.size + 1) ≤ k ∧ k < w2.heap.size) := fun k hk => ⟨by have h := (kg.ins k hk).1; rw [size_alloc] at h; exact h, (kg.ins k hk).2⟩
  replace kg := kg.win (Nat.le_refl _) gkg.out
  have sA := (Has.new hb2).win
  have z2 : Hid (w1.heap.size + 1 ≤ w2.heap.size) := size_lt hb2
  replace hb2 := Below.res hb2
  replace ks := ks.stay hb2
  replace BW := Below.step BW hb2
  clear hb2
  have csA0 := sA.now 0 _ rfl
  have csA1 := sA.now 1 _ rfl
  have zsA := Has.lt sA.now
  go_wp2_with fail
  refine (eqWords2_c _ _ _ pg ps qg qs L _ (kg.stay (alloc_below _ _)).now (ks.stay (alloc_below _ _)).now).mono ?_
  rintro e w3 ⟨rfl, hb3⟩
  have sB := (Has.new hb3).win
  have z3 : Hid (w2.heap.size + 1 ≤ w3.heap.size) := size_lt hb3
  replace hb3 := Below.res hb3
  replace ks := ks.stay hb3
  replace sA := sA.stay hb3
  replace kg := kg.stay hb3
  replace BW := Below.step BW hb3
  clear hb3 csA0 csA1 zsA
  have csB0 := sB.now 0 _ rfl
  have csB1 := sB.now 1 _ rfl
  have zsB := Has.lt sB.now
  go_wp2_with fail
  refine (markWords1_c _ _ _ L _ kg.now hlen).mono ?_
  rintro e w4 ⟨rfl, km, hg⟩
  have z4 : Hid (w3.heap.size ≤ w4.heap.size) := hg.size
  have sg := grown_seg hg gkg.out
  replace ks := ks.seg sg (by have := z1.out; have := z2.out; have := z3.out; have := z4.out; omega)
  replace sA := sA.seg sg (by have := z1.out; have := z2.out; have := z3.out; have := z4.out; omega)
  replace sB := sB.seg sg (by have := z1.out; have := z2.out; have := z3.out; have := z4.out; omega)
  replace BW := Below.seg BW sg (by have := z1.out; have := z2.out; have := z3.out; have := z4.out; omega)
  replace km := km.win (by have := z1.out; have := z2.out; have := z3.out; have := z4.out; omega) gkg.out
  clear hg sg kg csB0 csB1 zsB
  have csB0 := sB.now 0 _ rfl
  have csB1 := sB.now 1 _ rfl
  have zsB := Has.lt sB.now
  go_wp2_with fail
  refine (heldWords1_c _ _ pg qg L.length _ km.now hlen).mono ?_
  rintro e w5 ⟨rfl, hb5⟩
  have z5 : Hid (w4.heap.size ≤ w5.heap.size) := hb5.size
  replace ks := ks.stay hb5
  replace sA := sA.stay hb5
  replace sB := sB.stay hb5
  replace km := km.stay hb5
  replace BW := Below.step BW hb5
  clear hb5 csB0 csB1 zsB
  go_wp2_with fail
  refine (him _).mono ?_
  rintro e w6 ⟨vh, rfl, kh, hb6⟩
  obtain ⟨ph, qh, rfl, -⟩ := kh.rd
  have gkh : Hid (∀ k, k ∈ _ → w5.heap.size ≤ k ∧ k < w6.heap.size) := fun k hk => ⟨by have h := (kh.ins k hk).1; exact h, (kh.ins k hk).2⟩
  replace kh := kh.win (Nat.le_refl _) gkh.out
  have z6 : Hid (w5.heap.size ≤ w6.heap.size) := hb6.size
  replace ks := ks.stay hb6
  replace sA := sA.stay hb6
  replace sB := sB.stay hb6
  replace km := km.stay hb6
  replace BW := Below.step BW hb6
  clear hb6
  have csA0 := sA.now 0 _ rfl
  have csA1 := sA.now 1 _ rfl
  have zsA := Has.lt sA.now
  go_wp2_with fail
  refine (eqWords2_c _ _ _ ph ps qh qs L _ (kh.stay (alloc_below _ _)).now (ks.stay (alloc_below _ _)).now).mono ?_
  rintro e w7 ⟨rfl, hb7⟩
  have sC := (Has.new hb7).win
  have z7 : Hid (w6.heap.size + 1 ≤ w7.heap.size) := size_lt hb7
  replace hb7 := Below.res hb7
  replace ks := ks.stay hb7
  replace sA := sA.stay hb7
  replace sB := sB.stay hb7
  replace km := km.stay hb7
  replace kh := kh.stay hb7
  replace BW := Below.step BW hb7
  clear hb7 csA0 csA1 zsA
  clear sC sA ks kh
  have csB0 := sB.now 0 _ rfl
  have csB1 := sB.now 1 _ rfl
  have zsB := Has.lt sB.now
  go_wp2_with fail
  refine (heldWords1_c _ _ pg qg L.length _ km.now hlen).mono ?_
  rintro e w8 ⟨rfl, hb8⟩
  have z8 : Hid (w7.heap.size ≤ w8.heap.size) := hb8.size
  replace sB := sB.stay hb8
  replace km := km.stay hb8
  replace BW := Below.step BW hb8
  clear hb8 csB0 csB1 zsB
  go_wp2
  go_ret
  exact ⟨rfl, BW⟩

/-! The row's step. -/
/-- The start meets the condition. -/
theorem door_met (os : Os) (args : Array Value) : laidMetH Tryd.prog Rows.fnExactWordsOfRow.laid ((World.laidAll Tryd.prog os Rows.fnExactWordsOfRow.laid).forCall (fun _ _ => 0) ⟨#[], args, []⟩).memory :=
  by rw [MakeChecks.laidMetH_plain _ _ _ (by kernel_rfl)]; exact laidMet_laidAll _ (by kernel_rfl) (by kernel_rfl)

set_option maxRecDepth 100000 in
set_option maxHeartbeats 1000000 in
theorem lifted (os : Os) (started : os.Started) (H : Type) (enc : TypeId × Value → H) :
    ReturnsInHanded {} Tryd.checked os 4 .any (fun w args => (Rows.fnExactWordsOfSpec.pre enc Tryd.prog Tryd.f4 [] false w args ∧ laidMetH Tryd.prog Rows.fnExactWordsOfRow.laid w) ∧ sizedMet enc Tryd.prog Tryd.f4 (OpenSpec.ofChange Rows.fnExactWordsOfSpec) false w args) (Rows.fnExactWordsOfSpec.post enc Tryd.prog Tryd.f4 false true false false) := by
  refine returnsInHanded_of_change_and (C := Tryd.checked) (X := fun w _ => laidMetH Tryd.prog Rows.fnExactWordsOfRow.laid w) (fun _ _ _ hh h => h.of_heap hh) own started (by kernel_rfl) Tryd.func4
    (ChangeSpec.witness_shaped (enc := enc) (C := Tryd.checked) (os := os) (X := fun w _ => laidMetH Tryd.prog Rows.fnExactWordsOfRow.laid w) false (World.laidAll Tryd.prog os Rows.fnExactWordsOfRow.laid) #[.string ⟨#[]⟩] 8 (World.laidAll_os _ _ _) (World.shaped_of_ZipB (by kernel_rfl) (by kernel_rfl)) (by kernel_rfl) (by kernel_rfl) (by kernel_rfl) (door_met os _)) ?_
  intro W base args ds gs before hval0 hW hcnd _ hL _
  have hval : ∀ (j : Nat) t v, Tryd.f4.params[j]? = some t → args[j]? = some v → Value.okWide Tryd.prog W .any base t v := hval0
  have hW' := hW
  obtain ⟨p, q, hA0, hV, rfl, hfz, hnd⟩ := hW
  have hA : DataW.TrodAll enc Tryd.prog W 0 (fun _ => true) true Tryd.f4.params.toList args.toList ds p := hA0
  rw [Tryd.params4] at hA hval
  obtain ⟨v0, vs0, d0, ds0, s0, t0, hargs, rfl, rfl, h0, m0⟩ := trodAll_cons hA
  obtain ⟨rfl, rfl, rfl⟩ := trodAll_nil m0
  obtain rfl : args = #[v0] := by cases args; simp_all
  obtain ⟨rfl, rfl⟩ := trodVars_none hV
  obtain ⟨y0, rfl, rfl, rfl, f0⟩ := open_string Tryd.underlying9 (hval 0 9 v0 rfl rfl) h0
  clear hA0 hval0
  refine (walk y0 W f0).mono fun e W' ⟨he, bel⟩ => ?_
  subst he
  exact ⟨_, rfl, _, _, _, [], _, [], hW', trodAll_mk1 (shut_bool Tryd.underlying4 _), (trodAll_cons_mk (shut_string Tryd.underlying9 f0) trodAll_mk0), rfl, bel.frame _, fun h => by cases h⟩

theorem over : Rows.fnExactWordsOfRow.holds Tryd.pinned (OpenSpec.ofChange Rows.fnExactWordsOfSpec) :=
  OpenClaim.holds_of_wide 4 Tryd.f4 rfl rfl rfl rfl rfl rfl rfl ⟨rfl, rfl, rfl, rfl, rfl⟩ rfl rfl rfl rfl rfl (by kernel_rfl) Tryd.func4 (by kernel_rfl)
    (of_decide_eq_true (by kernel_rfl)) (by unfold Func.isWrapper; first | (rw [if_pos (by decide +kernel)]; kernel_rfl) | (rw [if_neg (by decide +kernel)]; exact ⟨rfl, rfl⟩))
    (fun os started H enc _ => lifted os started H enc)

theorem plain (f : FuncId) (fn : Func) (hf : Tryd.pinned.checked.prog.funcNamed "loop.example/g00375/laws.FnExactWordsOf" = some f) (hfn : Tryd.pinned.checked.prog.funcs[f]? = some fn) :
    false = Tryd.pinned.checked.prog.looks [] ∧ ∀ (j : Nat) t, fn.params[j]? = some t → Tryd.pinned.checked.prog.wantsStandIn t = false := by
  obtain rfl : f = 4 := Option.some.inj ((show Tryd.prog.funcNamed "loop.example/g00375/laws.FnExactWordsOf" = some 4 by kernel_rfl).symm.trans hf) |>.symm
  obtain rfl : fn = Tryd.f4 := (Option.some.inj (Tryd.func4.symm.trans hfn)).symm
  refine ⟨by kernel_rfl, fun j t ht => ?_⟩
  rw [Tryd.params4] at ht
  have hm : t ∈ [9] := by simpa using Array.mem_of_getElem? ht
  have hall : ([9].all fun u => !Tryd.prog.wantsStandIn u) = true := by kernel_rfl
  exact (show Tryd.prog.wantsStandIn t = false by simpa using List.all_eq_true.1 hall t hm)
/-- The card. -/
theorem card : Rows.FnExactWordsOfCardSaid :=
  Claim7.holds_tied_plain_at .later [] _ _ _ _ over (fun _ h => by cases h) (by kernel_rfl) (fun _ h => by cases h) fnExactWordsOf_row_tie rfl ⟨rfl, rfl⟩ (by kernel_rfl) rfl plain (by kernel_rfl)
end Go.Proofs.YtgjmhlolbjmibaaDoor.fnExactWordsOf

namespace Go.Proofs.YtgjmhlolbjmibaaDoor
theorem fnExactWordsOf_holds : Rows.FnExactWordsOfCardSaid := fnExactWordsOf.card
end Go.Proofs.YtgjmhlolbjmibaaDoor
