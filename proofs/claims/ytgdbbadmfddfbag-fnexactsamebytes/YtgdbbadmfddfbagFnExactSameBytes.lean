/- SameBytes of the program answers as the specification's, and leaves its arguments alone. For every argument; no condition. The frame is the one that the guide's program writes; the walk and its contracts are ours. -/
import Derived.Test.YtgdbbadmfddfbagRows
import Derived.WalkKit
import Derived.ProofKit
import Derived.OpenShut
import Derived.ShutString
import Derived.ChangeOld
import Derived.Below
import Derived.Test.YtgdbbadmfddfbagSame
namespace Go.Proofs.Ytgdbbadmfddfbag.fnExactSameBytes
open Go.ChangeShapes Go.WideShapes Go.ChangeAt Go.RowKit
open Go.ChangeMaps (open_string shut_string)
set_option linter.unusedVariables false

theorem own : ownKnob Try.prog.godebug = none := by kernel_rfl
theorem laidOut : laidOutB Try.prog = true := by kernel_rfl

def IsRow (k : IntKind) (w : World) (a : Option Addr) (len cap : Nat) (zs : List Int) : Prop :=
  (a = none ∧ len = 0 ∧ cap = 0 ∧ zs = []) ∨
  ∃ x, a = some x ∧ len ≤ cap ∧ cap ≤ maxLen ∧ zs.length = cap ∧ (∀ i, i < zs.length → w.cell? (x.add i) = some (.int k (zs.getD i 0))) ∧ ∀ n ∈ zs, (Lit.int k n).wf = true


/-! The walk. -/
theorem walk (a0 : Option Addr) (len0 cap0 : Nat) (z0 : List Int) (a1 : Option Addr) (len1 cap1 : Nat) (z1 : List Int) (w : World) (w0 : IsRow .u8 w a0 len0 cap0 z0) (w1 : IsRow .u8 w a1 len1 cap1 z1) :
    Calls Try.prog 8 #[.slice a0 len0 cap0, .slice a1 len1 cap1] w fun e w' => e = .returned (.bool true) ∧ Below w.heap.size w w' := by
  obtain ⟨bs0, rfl, r0⟩ := rd_of w0
  clear w0
  obtain ⟨bs1, rfl, r1⟩ := rd_of w1
  clear w1
  by_cases hl0 : 1048576 < bs0.length
  · go_enter Try.func8, Try.ntmps8
    go_wp2
    go_ret
    exact ⟨rfl, Below.refl _ _⟩
  replace hl0 : bs0.length ≤ 1048576 := by omega
  by_cases hl1 : 1048576 < bs1.length
  · go_enter Try.func8, Try.ntmps8
    go_wp2
    go_ret
    exact ⟨rfl, Below.refl _ _⟩
  replace hl1 : bs1.length ≤ 1048576 := by omega
  go_enter Try.func8, Try.ntmps8
  go_wp2_with fail
  refine (toByteS_c _ _ bs0 _ r0 hl0).mono ?_
  rintro e w1 ⟨u0, rfl, k0, hb1⟩
  obtain ⟨p0, q0, rfl, -⟩ := k0.rd
  replace r0 := r0.keep hb1
  replace r1 := r1.keep hb1
  have BW := hb1
  clear hb1
  go_wp2_with fail
  refine (toByteS_c _ _ bs1 _ r1 hl1).mono ?_
  rintro e w2 ⟨u1, rfl, k1, hb2⟩
  obtain ⟨p1, q1, rfl, -⟩ := k1.rd
  replace r0 := r0.keep hb2
  replace r1 := r1.keep hb2
  replace k0 := k0.stay hb2
  replace BW := Below.step BW hb2
  clear hb2
  go_wp2_with fail
  refine (specSame_c p0 p1 q0 q1 bs0 bs1 _ (Rd.own k0) (Rd.own k1)).mono ?_
  rintro e w3 ⟨rfl, hb3⟩
  replace r0 := r0.keep hb3
  replace r1 := r1.keep hb3
  replace k0 := k0.stay hb3
  replace k1 := k1.stay hb3
  replace BW := Below.step BW hb3
  clear hb3
  clear k0 k1
  go_wp2_with fail
  refine (toByteS_c _ _ bs0 _ r0 hl0).mono ?_
  rintro e w4 ⟨u2, rfl, k2, hb4⟩
  obtain ⟨p2, q2, rfl, -⟩ := k2.rd
  replace r0 := r0.keep hb4
  replace r1 := r1.keep hb4
  replace BW := Below.step BW hb4
  clear hb4
  go_wp2_with fail
  refine (toByteS_c _ _ bs1 _ r1 hl1).mono ?_
  rintro e w5 ⟨u3, rfl, k3, hb5⟩
  obtain ⟨p3, q3, rfl, -⟩ := k3.rd
  replace r0 := r0.keep hb5
  replace r1 := r1.keep hb5
  replace k2 := k2.stay hb5
  replace BW := Below.step BW hb5
  clear hb5
  go_wp2_with fail
  refine (implSame_c p2 p3 q2 q3 bs0 bs1 _ (Rd.own k2) (Rd.own k3)).mono ?_
  rintro e w6 ⟨rfl, hb6⟩
  replace r0 := r0.keep hb6
  replace r1 := r1.keep hb6
  replace k2 := k2.stay hb6
  replace k3 := k3.stay hb6
  replace BW := Below.step BW hb6
  clear hb6
  go_wp2_with fail
  refine (toByteS_c _ _ bs0 _ r0 hl0).mono ?_
  rintro e w7 ⟨u4, rfl, k4, hb7⟩
  obtain ⟨p4, q4, rfl, -⟩ := k4.rd
  replace r0 := r0.keep hb7
  replace r1 := r1.keep hb7
  replace k2 := k2.stay hb7
  replace k3 := k3.stay hb7
  replace BW := Below.step BW hb7
  clear hb7
  go_wp2_with fail
  refine (eqByteS_c p2 p4 q2 q4 bs0 _ (Rd.own k2) (Rd.own k4)).mono ?_
  rintro e w8 ⟨rfl, hb8⟩
  replace r0 := r0.keep hb8
  replace r1 := r1.keep hb8
  replace k2 := k2.stay hb8
  replace k3 := k3.stay hb8
  replace k4 := k4.stay hb8
  replace BW := Below.step BW hb8
  clear hb8
  clear k2 k4
  go_wp2_with fail
  refine (toByteS_c _ _ bs1 _ r1 hl1).mono ?_
  rintro e w9 ⟨u5, rfl, k5, hb9⟩
  obtain ⟨p5, q5, rfl, -⟩ := k5.rd
  replace r0 := r0.keep hb9
  replace r1 := r1.keep hb9
  replace k3 := k3.stay hb9
  replace BW := Below.step BW hb9
  clear hb9
  go_wp2_with fail
  refine (eqByteS_c p3 p5 q3 q5 bs1 _ (Rd.own k3) (Rd.own k5)).mono ?_
  rintro e w10 ⟨rfl, hb10⟩
  replace r0 := r0.keep hb10
  replace r1 := r1.keep hb10
  replace k3 := k3.stay hb10
  replace k5 := k5.stay hb10
  replace BW := Below.step BW hb10
  clear hb10
  go_wp2
  go_ret
  exact ⟨rfl, BW⟩

/-! The row's step. -/
set_option maxRecDepth 100000 in
theorem lifted (os : Os) (started : os.Started) (H : Type) (enc : TypeId × Value → H) :
    ReturnsInHanded {} Try.checked os 8 .any (Rows.fnExactSameBytesSpec.pre6 enc Try.prog Try.f8 Rows.fnExactSameBytesRow.domain false) (Rows.fnExactSameBytesSpec.post enc Try.prog Try.f8 false true false false) := by
  refine returnsInHanded_of_change (C := Try.checked) own started (by kernel_rfl) Try.func8
    (ChangeSpec.witness6 (enc := enc) (C := Try.checked) false ⟨#[], #[.slice none 0 0, .slice none 0 0], []⟩ 8 (by kernel_rfl) (by kernel_rfl) (by kernel_rfl) (by kernel_rfl)) ?_
  intro W base args ds gs before hval0 hW hcnd _
  have hval : ∀ (j : Nat) t v, Try.f8.params[j]? = some t → args[j]? = some v → Value.okWide Try.prog W .any base t v := hval0
  have hW' := hW
  obtain ⟨p, q, hA0, hV, rfl, hfz, hnd⟩ := hW
  have hA : DataW.TrodAll enc Try.prog W 0 (fun _ => true) true Try.f8.params.toList args.toList ds p := hA0
  rw [Try.params8] at hA hval
  obtain ⟨v0, vs0, d0, ds0, p0, q0, hargs, rfl, rfl, h0, r0⟩ := trodAll_cons hA
  obtain ⟨v1, vs1, d1, ds1, p1, q1, rfl, rfl, rfl, h1, r1⟩ := trodAll_cons r0
  obtain ⟨rfl, rfl, rfl⟩ := trodAll_nil r1
  obtain rfl : args = #[v0, v1] := by cases args; simp_all
  obtain ⟨rfl, rfl⟩ := trodVars_none hV
  obtain ⟨a0, len0, cap0, rfl⟩ := okWide_slice Try.underlying27 (hval 0 27 v0 rfl rfl)
  have k0 := h0
  have lt0 : ∀ x ∈ p0, x.block < W.heap.size := by obtain ⟨m, hm⟩ := k0; exact DataW.trod_lt m _ _ _ hm
  obtain ⟨z0, w0⟩ : ∃ zs, IsRow .u8 W a0 len0 cap0 zs := by
    obtain ⟨fuel, hf⟩ := h0
    rcases open_ints Try.underlying27 Try.underlying5 (by kernel_rfl) hf with ⟨hcs, _⟩ | ⟨x, l, c, zs, hcs, _, hl, hm, hz, _, hcell, hwz⟩
    · simp [Value.cells] at hcs
      obtain ⟨rfl, rfl, rfl⟩ := hcs
      exact ⟨[], .inl ⟨rfl, rfl, rfl, rfl⟩⟩
    · simp [Value.cells] at hcs
      obtain ⟨rfl, rfl, rfl⟩ := hcs
      exact ⟨zs, .inr ⟨_, rfl, hl, hm, by simpa using hz, hcell, hwz⟩⟩
  obtain ⟨a1, len1, cap1, rfl⟩ := okWide_slice Try.underlying27 (hval 1 27 v1 rfl rfl)
  have k1 := h1
  have lt1 : ∀ x ∈ p1, x.block < W.heap.size := by obtain ⟨m, hm⟩ := k1; exact DataW.trod_lt m _ _ _ hm
  obtain ⟨z1, w1⟩ : ∃ zs, IsRow .u8 W a1 len1 cap1 zs := by
    obtain ⟨fuel, hf⟩ := h1
    rcases open_ints Try.underlying27 Try.underlying5 (by kernel_rfl) hf with ⟨hcs, _⟩ | ⟨x, l, c, zs, hcs, _, hl, hm, hz, _, hcell, hwz⟩
    · simp [Value.cells] at hcs
      obtain ⟨rfl, rfl, rfl⟩ := hcs
      exact ⟨[], .inl ⟨rfl, rfl, rfl, rfl⟩⟩
    · simp [Value.cells] at hcs
      obtain ⟨rfl, rfl, rfl⟩ := hcs
      exact ⟨zs, .inr ⟨_, rfl, hl, hm, by simpa using hz, hcell, hwz⟩⟩
  clear hA0 hval0
  refine (walk a0 len0 cap0 z0 a1 len1 cap1 z1 W w0 w1).mono fun e W' ⟨he, bel⟩ => ?_
  subst he
  exact ⟨_, rfl, _, _, _, [], _, [], hW', trodAll_mk1 (shut_bool Try.underlying4 _), (trodAll_cons_mk (Below.trod laidOut (by kernel_rfl) (of_decide_eq_true (by kernel_rfl)) k0 bel lt0) (trodAll_cons_mk (Below.trod laidOut (by kernel_rfl) (of_decide_eq_true (by kernel_rfl)) k1 bel lt1) trodAll_mk0)), rfl, bel.frame _, fun h => by cases h⟩

theorem over : Rows.fnExactSameBytesRow.holds Try.pinned (OpenSpec.ofChange Rows.fnExactSameBytesSpec) :=
  OpenClaim.holds_of_wide 8 Try.f8 rfl rfl rfl rfl rfl rfl rfl ⟨rfl, rfl, rfl, rfl, rfl⟩ rfl rfl rfl rfl rfl (by kernel_rfl) Try.func8 (by kernel_rfl)
    (of_decide_eq_true (by kernel_rfl)) (by unfold Func.isWrapper; first | (rw [if_pos (by decide +kernel)]; kernel_rfl) | (rw [if_neg (by decide +kernel)]; exact ⟨rfl, rfl⟩))
    (fun os started H enc _ => lifted os started H enc)

/-- The given statement. -/
theorem proved : Rows.FnExactSameBytesSaid := over
end Go.Proofs.Ytgdbbadmfddfbag.fnExactSameBytes

namespace Go.Proofs.Ytgdbbadmfddfbag
theorem fnExactSameBytes_holds : Rows.FnExactSameBytesSaid := fnExactSameBytes.proved
end Go.Proofs.Ytgdbbadmfddfbag
