/- BytesShare of the program answers as the specification's, code and value, and leaves its argument alone. For every argument; no condition. The frame is the one that the guide's program writes; the walk and its contracts are ours. -/
import Derived.Test.YtdolhafkihkocabRows
import Derived.WalkKit
import Derived.ProofKit
import Derived.OpenShut
import Derived.ShutString
import Derived.ChangeOld
import Derived.Below
import Derived.Test.YtdolhafkihkocabPowI
import Derived.Test.YtdolhafkihkocabEqInt
namespace Go.Proofs.Ytdolhafkihkocab.fnExactBytesShare
open Go.ChangeShapes Go.WideShapes Go.ChangeAt Go.RowKit
open Go.ChangeMaps (open_string shut_string)
set_option linter.unusedVariables false

theorem own : ownKnob Try.prog.godebug = none := by kernel_rfl
theorem laidOut : laidOutB Try.prog = true := by kernel_rfl

def IsRow (k : IntKind) (w : World) (a : Option Addr) (len cap : Nat) (zs : List Int) : Prop :=
  (a = none ∧ len = 0 ∧ cap = 0 ∧ zs = []) ∨
  ∃ x, a = some x ∧ len ≤ cap ∧ cap ≤ maxLen ∧ zs.length = cap ∧ (∀ i, i < zs.length → w.cell? (x.add i) = some (.int k (zs.getD i 0))) ∧ ∀ n ∈ zs, (Lit.int k n).wf = true


/-! The walk. -/
theorem walk (a0 : Option Addr) (len0 cap0 : Nat) (z0 : List Int) (w : World) (w0 : IsRow .u8 w a0 len0 cap0 z0) :
    Calls Try.prog 3 #[.slice a0 len0 cap0] w fun e w' => e = .returned (.bool true) ∧ Below w.heap.size w w' := by
  obtain ⟨bs0, rfl, r0⟩ := rd_of w0
  clear w0
  by_cases hl0 : 1048576 < bs0.length
  · go_enter Try.func3, Try.ntmps3
    go_wp2
    go_ret
    exact ⟨rfl, Below.refl _ _⟩
  replace hl0 : bs0.length ≤ 1048576 := by omega
  go_enter Try.func3, Try.ntmps3
  go_wp2_with fail
  refine (toByteS_c _ _ bs0 _ r0 hl0).mono ?_
  rintro e w1 ⟨u0, rfl, k0, hb1⟩
  obtain ⟨p0, q0, rfl, -⟩ := k0.rd
  replace r0 := r0.keep hb1
  have BW := hb1
  clear hb1
  go_wp2_with fail
  refine (specBs_c p0 q0 bs0 _ (Rd.own k0)).mono ?_
  rintro e w2 ⟨rfl, hb2⟩
  replace r0 := r0.keep hb2
  replace k0 := k0.stay hb2
  replace BW := Below.step BW hb2
  clear hb2
  clear k0
  go_wp2_with fail
  refine (toByteS_c _ _ bs0 _ (r0.keep (alloc_below _ _)) hl0).mono ?_
  rintro e w3 ⟨u1, rfl, k1, hb3⟩
  obtain ⟨p1, q1, rfl, -⟩ := k1.rd
  have sA := Has.new hb3
  replace hb3 := Below.res hb3
  replace r0 := r0.keep hb3
  replace BW := Below.step BW hb3
  clear hb3
  go_wp2_with fail
  refine (implBs_c p1 q1 bs0 _ (Rd.own k1)).mono ?_
  rintro e w4 ⟨rfl, hb4⟩
  replace r0 := r0.keep hb4
  replace sA := sA.keep hb4
  replace k1 := k1.stay hb4
  replace BW := Below.step BW hb4
  clear hb4
  have csA0 := sA 0 _ rfl
  have csA1 := sA 1 _ rfl
  have zsA := sA.lt
  go_wp2_with fail
  refine (eqInt_c _ _ _).mono ?_
  rintro e w5 ⟨rfl, hb5⟩
  have sB := Has.new hb5
  replace hb5 := Below.res hb5
  replace r0 := r0.keep hb5
  replace sA := sA.keep hb5
  replace k1 := k1.stay hb5
  replace BW := Below.step BW hb5
  clear hb5 csA0 csA1 zsA
  clear sA sB
  go_wp2_with fail
  refine (toByteS_c _ _ bs0 _ r0 hl0).mono ?_
  rintro e w6 ⟨u2, rfl, k2, hb6⟩
  obtain ⟨p2, q2, rfl, -⟩ := k2.rd
  replace r0 := r0.keep hb6
  replace k1 := k1.stay hb6
  replace BW := Below.step BW hb6
  clear hb6
  go_wp2_with fail
  refine (eqByteS_c p1 p2 q1 q2 bs0 _ (Rd.own k1) (Rd.own k2)).mono ?_
  rintro e w7 ⟨rfl, hb7⟩
  replace r0 := r0.keep hb7
  replace k1 := k1.stay hb7
  replace k2 := k2.stay hb7
  replace BW := Below.step BW hb7
  clear hb7
  go_wp2
  go_ret
  exact ⟨rfl, BW⟩

/-! The row's step. -/
set_option maxRecDepth 100000 in
theorem lifted (os : Os) (started : os.Started) (H : Type) (enc : TypeId × Value → H) :
    ReturnsInHanded {} Try.checked os 3 .any (Rows.fnExactBytesShareSpec.pre6 enc Try.prog Try.f3 Rows.fnExactBytesShareRow.domain false) (Rows.fnExactBytesShareSpec.post enc Try.prog Try.f3 false true false false) := by
  refine returnsInHanded_of_change (C := Try.checked) own started (by kernel_rfl) Try.func3
    (ChangeSpec.witness6 (enc := enc) (C := Try.checked) false ⟨#[], #[.slice none 0 0], []⟩ 8 (by kernel_rfl) (by kernel_rfl) (by kernel_rfl) (by kernel_rfl)) ?_
  intro W base args ds gs before hval0 hW hcnd _
  have hval : ∀ (j : Nat) t v, Try.f3.params[j]? = some t → args[j]? = some v → Value.okWide Try.prog W .any base t v := hval0
  have hW' := hW
  obtain ⟨p, q, hA0, hV, rfl, hfz, hnd⟩ := hW
  have hA : DataW.TrodAll enc Try.prog W 0 (fun _ => true) true Try.f3.params.toList args.toList ds p := hA0
  rw [Try.params3] at hA hval
  obtain ⟨v0, vs0, d0, ds0, p0, q0, hargs, rfl, rfl, h0, r0⟩ := trodAll_cons hA
  obtain ⟨rfl, rfl, rfl⟩ := trodAll_nil r0
  obtain rfl : args = #[v0] := by cases args; simp_all
  obtain ⟨rfl, rfl⟩ := trodVars_none hV
  obtain ⟨a0, len0, cap0, rfl⟩ := okWide_slice Try.underlying22 (hval 0 22 v0 rfl rfl)
  have k0 := h0
  have lt0 : ∀ x ∈ p0, x.block < W.heap.size := by obtain ⟨m, hm⟩ := k0; exact DataW.trod_lt m _ _ _ hm
  obtain ⟨z0, w0⟩ : ∃ zs, IsRow .u8 W a0 len0 cap0 zs := by
    obtain ⟨fuel, hf⟩ := h0
    rcases open_ints Try.underlying22 Try.underlying5 (by kernel_rfl) hf with ⟨hcs, _⟩ | ⟨x, l, c, zs, hcs, _, hl, hm, hz, _, hcell, hwz⟩
    · simp [Value.cells] at hcs
      obtain ⟨rfl, rfl, rfl⟩ := hcs
      exact ⟨[], .inl ⟨rfl, rfl, rfl, rfl⟩⟩
    · simp [Value.cells] at hcs
      obtain ⟨rfl, rfl, rfl⟩ := hcs
      exact ⟨zs, .inr ⟨_, rfl, hl, hm, by simpa using hz, hcell, hwz⟩⟩
  clear hA0 hval0
  refine (walk a0 len0 cap0 z0 W w0).mono fun e W' ⟨he, bel⟩ => ?_
  subst he
  exact ⟨_, rfl, _, _, _, [], _, [], hW', trodAll_mk1 (shut_bool Try.underlying4 _), (trodAll_cons_mk (Below.trod laidOut (by kernel_rfl) (of_decide_eq_true (by kernel_rfl)) k0 bel lt0) trodAll_mk0), rfl, bel.frame _, fun h => by cases h⟩

theorem over : Rows.fnExactBytesShareRow.holds Try.pinned (OpenSpec.ofChange Rows.fnExactBytesShareSpec) :=
  OpenClaim.holds_of_wide 3 Try.f3 rfl rfl rfl rfl rfl rfl rfl ⟨rfl, rfl, rfl, rfl, rfl⟩ rfl rfl rfl rfl rfl (by kernel_rfl) Try.func3 (by kernel_rfl)
    (of_decide_eq_true (by kernel_rfl)) (by unfold Func.isWrapper; first | (rw [if_pos (by decide +kernel)]; kernel_rfl) | (rw [if_neg (by decide +kernel)]; exact ⟨rfl, rfl⟩))
    (fun os started H enc _ => lifted os started H enc)

/-- The given statement. -/
theorem proved : Rows.FnExactBytesShareSaid := over
end Go.Proofs.Ytdolhafkihkocab.fnExactBytesShare

namespace Go.Proofs.Ytdolhafkihkocab
theorem fnExactBytesShare_holds : Rows.FnExactBytesShareSaid := fnExactBytesShare.proved
end Go.Proofs.Ytdolhafkihkocab
