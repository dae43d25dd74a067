/- ShareBytes of the program answers as the specification's, code and bytes, and its answer owns its memory, behind another call too. For every argument; no condition. The frame is the one that the guide's program writes; the walk and its contracts are ours. -/
import Derived.Test.YtdolhafkihkocaaRows
import Derived.WalkKit
import Derived.ProofKit
import Derived.OpenShut
import Derived.ShutString
import Derived.Test.YtdolhafkihkocaaPowI
import Derived.Test.YtdolhafkihkocaaEqBytes
import Derived.Below
namespace Go.Proofs.Ytdolhafkihkocaa.fnExactShareBytes
open Go.ChangeShapes Go.WideShapes Go.ChangeAt Go.RowKit
open Go.ChangeMaps (open_string shut_string)
set_option linter.unusedVariables false      -- a walk need not use every 'w<i>' (that an integer argument fits its kind)

theorem own : ownKnob Try.prog.godebug = none := by kernel_rfl


/-! The walk. -/
theorem walk (a0 : Int) (w0 : (Lit.int .i64 a0).wf = true) (w : World) :
    Calls Try.prog 8 #[.int .i64 a0] w fun e w' => e = .returned (.bool true) ∧ Below w.heap.size w w' := by
  have hlen := shbL_len a0
  go_enter Try.func8, Try.ntmps8
  go_wp2_with fail
  refine (specSb_c a0 _).mono ?_
  rintro e w1 ⟨u0, rfl, k0, hb1⟩
  obtain ⟨p0, q0, rfl, -⟩ := k0.rd
  have BW := hb1
  clear hb1
  go_wp2_with fail
  refine (implSb_c a0 _).mono ?_
  rintro e w2 ⟨u1, rfl, k1, hb2⟩
  obtain ⟨p1, q1, rfl, -⟩ := k1.rd
  have neA : (Value.slice p1 (shbL a0).length q1).ownBlock ≠ some w1.heap.size := fun e => by have := k1.ge _ e; rw [size_alloc] at this; omega
  have neB : (Value.slice p1 (shbL a0).length q1).ownBlock ≠ some w2.heap.size := fun e => by have := k1.lt _ e; omega
  have neO : Hid (∀ k, (Value.slice p0 (shbL a0).length q0).ownBlock = some k → (Value.slice p1 (shbL a0).length q1).ownBlock ≠ some k) := fun k hk e => by have h1 := k0.lt k hk; have h2 := k1.ge k e; rw [size_alloc] at h2; omega
  have neW : Hid (∀ k, (Value.slice p1 (shbL a0).length q1).ownBlock = some k → w.heap.size ≤ k) := fun k e => by have h1 := BW.size; have h2 := k1.ge k e; rw [size_alloc] at h2; omega
  have sA := Has.new hb2
  replace hb2 := Below.res hb2
  replace k0 := k0.stay hb2
  replace BW := Below.step BW hb2
  clear hb2
  have csA0 := sA 0 _ rfl
  have csA1 := sA 1 _ rfl
  have zsA := sA.lt
  go_wp2_with fail
  refine (eqBytes2_c _ _ _ p1 p0 q1 q0 (shbL a0) _ (k1.stay (alloc_below _ _)) (k0.stay (alloc_below _ _))).mono ?_
  rintro e w3 ⟨rfl, hb3⟩
  have sB := Has.new hb3
  replace hb3 := Below.res hb3
  replace k0 := k0.stay hb3
  replace sA := sA.keep hb3
  replace k1 := k1.stay hb3
  replace BW := Below.step BW hb3
  clear hb3 csA0 csA1 zsA
  have csB0 := sB 0 _ rfl
  have csB1 := sB 1 _ rfl
  have zsB := sB.lt
  go_wp2_with fail
  refine (markBytes1_c _ _ _ (shbL a0) _ k1 hlen).mono ?_
  rintro e w4 ⟨rfl, k2, hg⟩
  replace k0 := k0.other hg neO.out
  replace sA := sA.other hg neA
  replace sB := sB.other hg neB
  replace BW := BW.grown hg BW.size neW.out
  clear hg k1 csB0 csB1 zsB
  have csB0 := sB 0 _ rfl
  have csB1 := sB 1 _ rfl
  have zsB := sB.lt
  go_wp2_with fail
  refine (heldBytes1_c _ _ p1 q1 (shbL a0).length _ k2 hlen).mono ?_
  rintro e w5 ⟨rfl, hb5⟩
  replace k0 := k0.stay hb5
  replace sA := sA.keep hb5
  replace sB := sB.keep hb5
  replace k2 := k2.stay hb5
  replace BW := Below.step BW hb5
  clear hb5 csB0 csB1 zsB
  go_wp2_with fail
  refine (implSb_c a0 _).mono ?_
  rintro e w6 ⟨u2, rfl, k3, hb6⟩
  obtain ⟨p2, q2, rfl, -⟩ := k3.rd
  replace k0 := k0.stay hb6
  replace sA := sA.keep hb6
  replace sB := sB.keep hb6
  replace k2 := k2.stay hb6
  replace BW := Below.step BW hb6
  clear hb6
  have csA0 := sA 0 _ rfl
  have csA1 := sA 1 _ rfl
  have zsA := sA.lt
  go_wp2_with fail
  refine (eqBytes2_c _ _ _ p2 p0 q2 q0 (shbL a0) _ (k3.stay (alloc_below _ _)) (k0.stay (alloc_below _ _))).mono ?_
  rintro e w7 ⟨rfl, hb7⟩
  have sC := Has.new hb7
  replace hb7 := Below.res hb7
  replace k0 := k0.stay hb7
  replace sA := sA.keep hb7
  replace sB := sB.keep hb7
  replace k2 := k2.stay hb7
  replace k3 := k3.stay hb7
  replace BW := Below.step BW hb7
  clear hb7 csA0 csA1 zsA
  clear sC sA k0 k3
  have csB0 := sB 0 _ rfl
  have csB1 := sB 1 _ rfl
  have zsB := sB.lt
  go_wp2_with fail
  refine (heldBytes1_c _ _ p1 q1 (shbL a0).length _ k2 hlen).mono ?_
  rintro e w8 ⟨rfl, hb8⟩
  replace sB := sB.keep hb8
  replace k2 := k2.stay hb8
  replace BW := Below.step BW hb8
  clear hb8 csB0 csB1 zsB
  go_wp2
  go_ret
  exact ⟨rfl, BW⟩

/-! The row's step. -/
set_option maxRecDepth 100000 in
theorem lifted (os : Os) (started : os.Started) (H : Type) (enc : TypeId × Value → H) :
    ReturnsInHanded {} Try.checked os 8 .any (Rows.fnExactShareBytesSpec.pre6 enc Try.prog Try.f8 Rows.fnExactShareBytesRow.domain false) (Rows.fnExactShareBytesSpec.post enc Try.prog Try.f8 false true false false) := by
  refine returnsInHanded_of_change (C := Try.checked) own started (by kernel_rfl) Try.func8
    (ChangeSpec.witness6 (enc := enc) (C := Try.checked) false ⟨#[], #[.int .i64 0], []⟩ 8 (by kernel_rfl) (by kernel_rfl) (by kernel_rfl) (by kernel_rfl)) ?_
  intro W base args ds gs before hval0 hW hcnd _
  have hval : ∀ (j : Nat) t v, Try.f8.params[j]? = some t → args[j]? = some v → Value.okWide Try.prog W .any base t v := hval0
  have hW' := hW
  obtain ⟨p, q, hA0, hV, rfl, hfz, hnd⟩ := hW
  have hA : DataW.TrodAll enc Try.prog W 0 (fun _ => true) true Try.f8.params.toList args.toList ds p := hA0
  rw [Try.params8] at hA hval
  obtain ⟨v0, vs0, d0, ds0, p0, q0, hargs, rfl, rfl, h0, r0⟩ := trodAll_cons hA
  obtain ⟨rfl, rfl, rfl⟩ := trodAll_nil r0
  obtain rfl : args = #[v0] := by cases args; simp_all
  obtain ⟨rfl, rfl⟩ := trodVars_none hV
  obtain ⟨a0, rfl, rfl, rfl, w0⟩ := open_int Try.underlying2 (hval 0 2 v0 rfl rfl) h0
  clear hA0 hval0
  refine (walk a0 w0 W).mono fun e W' ⟨he, bel⟩ => ?_
  subst he
  exact ⟨_, rfl, _, _, _, [], _, [], hW', trodAll_mk1 (shut_bool Try.underlying4 _), (trodAll_cons_mk (shut_int Try.underlying2 w0) trodAll_mk0), rfl, bel.frame _, fun h => by cases h⟩

theorem over : Rows.fnExactShareBytesRow.holds Try.pinned (OpenSpec.ofChange Rows.fnExactShareBytesSpec) :=
  OpenClaim.holds_of_wide 8 Try.f8 rfl rfl rfl rfl rfl rfl rfl ⟨rfl, rfl, rfl, rfl, rfl⟩ rfl rfl rfl rfl rfl (by kernel_rfl) Try.func8 (by kernel_rfl)
    (of_decide_eq_true (by kernel_rfl)) (by unfold Func.isWrapper; first | (rw [if_pos (by decide +kernel)]; kernel_rfl) | (rw [if_neg (by decide +kernel)]; exact ⟨rfl, rfl⟩))
    (fun os started H enc _ => lifted os started H enc)

/-- The given statement. -/
theorem proved : Rows.FnExactShareBytesSaid :=
  over
end Go.Proofs.Ytdolhafkihkocaa.fnExactShareBytes

namespace Go.Proofs.Ytdolhafkihkocaa
theorem fnExactShareBytes_holds : Rows.FnExactShareBytesSaid := fnExactShareBytes.proved
end Go.Proofs.Ytdolhafkihkocaa
