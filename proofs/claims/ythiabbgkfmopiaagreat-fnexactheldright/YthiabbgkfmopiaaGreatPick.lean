/- Regions that draw their order, in which quiet operations are taken first, whichever they are, and two operations that make memory may come in either order ahead of a chain at the end. Beside Mix.lean. No program in it. -/
import Derived.Test.YthiabbgkfmopiaaGreatMix
namespace Go.Proofs.YthiabbgkfmopiaaGreat
open Go Go.RowKit

section
variable {P : Program} {ops : Array Oper} {md : Region.Mode} {Q' : Exit → Act → World → Prop} {last m : Nat}

def closedB (md : Region.Mode) (ops : Array Oper) (L : Array Bool) : Bool :=
  (List.range ops.size).all fun j => match ops[j]? with
    | some o => !(L.getD j false) || o.after.toList.all (fun e => !(Region.binds md e) || L.getD e.on false)
    | none => true
theorem closedB_spec {L : Array Bool} (h : closedB md ops L = true) : Closed md ops L := by
  intro j o ho hj e he hb
  have hjs : j < ops.size := (Array.getElem?_eq_some_iff.1 ho).1
  have h1 := (List.all_eq_true.1 h) j (List.mem_range.2 hjs)
  simp only [ho, hj, Bool.not_true, Bool.false_or, List.all_eq_true] at h1
  have h2 := h1 e (by simpa using he)
  simpa [hb] using h2

def okSeq (md : Region.Mode) (ops : Array Oper) (last : Nat) : Array Bool → List Nat → Bool
  | _, [] => true
  | L, i :: is => decide (i < last) && (closedB md ops L && ((Region.ready md ops L).contains i && (Region.free md ops L i && okSeq md ops last (L.setIfInBounds i true) is)))
def setAll : Array Bool → List Nat → Array Bool
  | L, [] => L
  | L, i :: is => setAll (L.setIfInBounds i true) is
def opsAt (ops : Array Oper) : List Nat → List Oper
  | [] => []
  | i :: is => match ops[i]? with
    | some o => o :: opsAt ops is
    | none => opsAt ops is

theorem wpM_pick (hlast : waitsT md ops last = true) (hs : Region.noSelect ops = true) {V : World} (fuel : Nat) : ∀ (is : List Nat) (L : Array Bool) (a : Act), okSeq md ops last L is = true → (opsAt ops is).all plainB = true →
    wpQuiet P ops (fun w' => ∃ s : HW V, w' = s.w) (fun a' => wpM P md ops Q' last m fuel (setAll L is) a' V) (opsAt ops is) a → wpM P md ops Q' last m (is.length + fuel) L a V
  | [], L, a, _, _, h => by simpa [opsAt, wpQuiet, setAll] using h
  | i :: is, L, a, hok, hp, h => by
    simp only [okSeq, Bool.and_eq_true, decide_eq_true_eq] at hok
    obtain ⟨hil, hcl, hr, hf, hok'⟩ := hok
    have hr' : i ∈ Region.ready md ops L := by simpa using hr
    obtain ⟨-, o, h0, -⟩ := mem_ready.1 hr'
    have ho : opsAt ops (i :: is) = o :: opsAt ops is := by simp only [opsAt, h0]
    rw [ho] at h hp
    simp only [List.all_cons, Bool.and_eq_true] at hp
    have hst : qOp P ops (fun w' => ∃ s : HW V, w' = s.w) i (wpQuiet P ops (fun w' => ∃ s : HW V, w' = s.w) (fun a' => wpM P md ops Q' last m fuel (setAll L (i :: is)) a' V) (opsAt ops is)) a := by unfold qOp; simp only [h0]; exact h
    obtain ⟨v, hy, hK⟩ := yieldsIn_of_qOp h0 hst
    have hrest := wpM_pick hlast hs fuel is (L.setIfInBounds i true) (a.put o.dst v) hok' hp.2 hK
    rw [show (i :: is).length + fuel = (is.length + fuel) + 1 by simp; omega]
    refine wpM_first hlast h0 hil (Region.noSelect_spec hs) (is.length + fuel) _ a V (closedB_spec hcl) (Region.free_spec h0 hf) hr' ?_ hrest
    rcases hy with ⟨hw, hv⟩ | ⟨hw, rfl⟩
    · refine .inl ⟨hw, fun w hw' => ?_⟩
      have h3 := hv w hw'
      unfold Oper.quietAt at h3
      cases hrn : (execOp a.eval o).run P w with
      | ok n w1 =>
        obtain ⟨u, rfl⟩ := plainB_value hp.1 a.eval w n w1 hrn
        rw [hrn] at h3
        obtain ⟨e1, e2⟩ := h3
        rw [e1, e2]
      | halt x w1 => rw [hrn] at h3; exact h3.elim
    · exact .inr ⟨hw, rfl⟩

/-- Just one can come up, or just these two. -/
theorem wpM_only {L : Array Bool} {i fuel : Nat} {a : Act} {V : World} (hr : Region.ready md ops L = [i]) (h : mOp P ops i (wpM P md ops Q' last m fuel (L.setIfInBounds i true)) a V) : wpM P md ops Q' last m (fuel + 1) L a V :=
  ⟨by rw [hr]; simp, fun j hj => by rw [hr] at hj; rw [List.mem_singleton.1 hj]; exact h⟩
theorem wpM_two {L : Array Bool} {i j fuel : Nat} {a : Act} {V : World} (hr : Region.ready md ops L = [i, j]) (h : mOp P ops i (wpM P md ops Q' last m fuel (L.setIfInBounds i true)) a V) (h2 : mOp P ops j (wpM P md ops Q' last m fuel (L.setIfInBounds j true)) a V) : wpM P md ops Q' last m (fuel + 1) L a V :=
  ⟨by rw [hr]; simp, fun k hk => by
    rw [hr] at hk
    rcases List.mem_cons.1 hk with rfl | h3
    · exact h
    · rw [List.mem_singleton.1 h3]; exact h2⟩
theorem wpM_three {L : Array Bool} {i j k fuel : Nat} {a : Act} {V : World} (hr : Region.ready md ops L = [i, j, k]) (h : mOp P ops i (wpM P md ops Q' last m fuel (L.setIfInBounds i true)) a V) (h2 : mOp P ops j (wpM P md ops Q' last m fuel (L.setIfInBounds j true)) a V) (h3 : mOp P ops k (wpM P md ops Q' last m fuel (L.setIfInBounds k true)) a V) : wpM P md ops Q' last m (fuel + 1) L a V :=
  ⟨by rw [hr]; simp, fun x hx => by
    rw [hr] at hx
    simp only [List.mem_cons, List.not_mem_nil, or_false] at hx
    rcases hx with rfl | rfl | rfl
    · exact h
    · exact h2
    · exact h3⟩
theorem wpM_four {L : Array Bool} {i j k l fuel : Nat} {a : Act} {V : World} (hr : Region.ready md ops L = [i, j, k, l]) (h : mOp P ops i (wpM P md ops Q' last m fuel (L.setIfInBounds i true)) a V) (h2 : mOp P ops j (wpM P md ops Q' last m fuel (L.setIfInBounds j true)) a V) (h3 : mOp P ops k (wpM P md ops Q' last m fuel (L.setIfInBounds k true)) a V) (h4 : mOp P ops l (wpM P md ops Q' last m fuel (L.setIfInBounds l true)) a V) : wpM P md ops Q' last m (fuel + 1) L a V :=
  ⟨by rw [hr]; simp, fun x hx => by
    rw [hr] at hx
    simp only [List.mem_cons, List.not_mem_nil, or_false] at hx
    rcases hx with rfl | rfl | rfl | rfl
    · exact h
    · exact h2
    · exact h3
    · exact h4⟩
theorem mOp_call {k : Nat} {o : Oper} {a : Act} {V : World} {K : Act → World → Prop} (h0 : ops[k]? = some o) (hw : Region.wanted o (yielded ops a.tmps) = true)
    (f : FuncId) (args args' : Array Value) (hr : ∀ w, (execOp a.eval o).run P w = .ok (.enter f args) w) (he : args = args')
    (h : ∀ w, (∃ s : HW V, w = s.w) → Calls P f args' w (fun e w' => ∃ v, e = .returned v ∧ (∃ s : HW w, w' = s.w) ∧ K (a.put o.dst v) w')) : mOp P ops k K a V := by
  subst he
  unfold mOp
  simp only [h0, hw, if_true]
  exact .inr fun w hw' => .inl ⟨f, args, hr w, h w hw'⟩
theorem mOp_make {k : Nat} {o : Oper} {a : Act} {V : World} {K : Act → World → Prop} (h0 : ops[k]? = some o) (hw : Region.wanted o (yielded ops a.tmps) = true)
    (h : ∀ w, (∃ s : HW V, w = s.w) → ∃ v w', (execOp a.eval o).run P w = .ok (.value v) w' ∧ (∃ s : HW w, w' = s.w) ∧ K (a.put o.dst v) w') : mOp P ops k K a V := by
  unfold mOp
  simp only [h0, hw, if_true]
  exact .inr fun w hw' => .inr (h w hw')
/-- It is not wanted (its guard says no). -/
theorem mOp_skip {k : Nat} {o : Oper} {a : Act} {V : World} {K : Act → World → Prop} (h0 : ops[k]? = some o) (hw : Region.wanted o (yielded ops a.tmps) = false) (h : K (a.put o.dst undef) V) : mOp P ops k K a V := by
  unfold mOp
  simp only [h0, hw, Bool.false_eq_true, if_false]
  exact h
/-- In the midst of a region: these quiet operations next. -/
theorem wpM_more {V : World} {L : Array Bool} {a : Act} (is : List Nat) (n fuel : Nat) (hn : n = is.length + fuel) (hlast : waitsT md ops last = true) (hs : Region.noSelect ops = true) (hB : okSeq md ops last L is = true) (hp : (opsAt ops is).all plainB = true)
    (h : wpQuiet P ops (fun w' => ∃ s : HW V, w' = s.w) (fun a' => wpM P md ops Q' last m fuel (setAll L is) a' V) (opsAt ops is) a) : wpM P md ops Q' last m n L a V := by
  subst hn
  exact wpM_pick hlast hs fuel is L a hB hp h
theorem wpM_end {L : Array Bool} {a : Act} {V : World} (hL : L = upTo ops.size last) (hm : last + m = ops.size) (hB : (List.range' last m).all (fun i => okR md ops i && okOne md ops i) = true) (hp : 0 < m) (h : ∀ w, (∃ s : HW V, w = s.w) → wpList P ops Q' (ops.toList.drop last) a w) : wpM P md ops Q' last m 0 L a V := by
  subst hL
  exact wpM_tail hm hB hp h
/-- The region: these quiet operations first, then k more ahead of the chain of m. -/
theorem wp_region_pick {id : Nat} {a : Act} {w : World} (is : List Nat) (last k m : Nat) (hk : last = is.length + k) (hn : ops.size = last + m) (hm : P.follows .mixedOrders = true) (hs : Region.noSelect ops = true) (hlast : waitsT .any ops last = true) (hB : okSeq .any ops last (Array.replicate ops.size false) is = true) (hp : (opsAt ops is).all plainB = true)
    (h : wpQuiet P ops (fun w' => ∃ s : HW w, w' = s.w) (fun a' => wpM P .any ops Q' last m k (setAll (Array.replicate ops.size false) is) a' w) (opsAt ops is) a) : (Code.region id ops true).wp P Q' a w := by
  have h1 := wpM_pick (Q' := Q') (m := m) hlast hs k is (Array.replicate ops.size false) a hB hp h
  refine wp_region_any hm ?_
  have h2 := wpAny_of_M (is.length + k) _ a w { w with drawn := w.drawn + 1 } ⟨⟨w.drew, (Below.refl _ _).drew⟩, rfl⟩ h1
  rw [← hk, ← hn] at h2
  exact h2
/-- A slice that is made, by the walk's own laws (its guard said yes). -/
theorem wpList_nil_of {Q : Exit → Act → World → Prop} {a : Act} {w : World} (h : Q .normal a w) : wpList P ops Q [] a w := by simpa [wpList] using h
def makesS (o : Oper) : Bool := match o.op with
  | .makeSlice .. => true
  | _ => false
theorem makesS_value {o : Oper} (hp : makesS o = true) (ρ : Operand → Value) (w : World) (n : Next) (w' : World) (h : (execOp ρ o).run P w = .ok n w') : ∃ u, n = .value u := by
  unfold makesS at hp
  unfold execOp at h
  split at hp <;> rename_i ho <;> simp only [ho] at h
  · exact v_plain _ w n w' h
  · cases hp
theorem mOp_mk {k : Nat} {o : Oper} {a : Act} {V : World} {K : Act → World → Prop} (h0 : ops[k]? = some o) (hw : Region.wanted o (yielded ops a.tmps) = true) (hk : makesS o = true)
    (h : ∀ w, (∃ s : HW V, w = s.w) → wpList P ops (fun e a' w' => e = .normal ∧ Below w.heap.size w w' ∧ K a' w') [{ o with guard := none }] a w) : mOp P ops k K a V := by
  unfold mOp
  simp only [h0, hw, if_true]
  refine .inr fun w hw' => .inr ?_
  have h1 := h w hw'
  unfold wpList at h1
  simp only [show ∀ f, Region.wanted { o with guard := none } f = true from fun _ => rfl, if_true] at h1
  rcases h1 with h1 | ⟨-, a1, w1, h1, -⟩
  · unfold Oper.wp at h1
    rw [show execOp a.eval { o with guard := none } = execOp a.eval o from rfl] at h1
    cases hrn : (execOp a.eval o).run P w with
    | ok n w1 =>
      obtain ⟨u, rfl⟩ := makesS_value hk a.eval w n w1 hrn
      rw [hrn] at h1
      simp only [Oper.upon, wpList] at h1
      exact ⟨u, w1, rfl, ⟨⟨w1, h1.2.1⟩, rfl⟩, h1.2.2⟩
    | halt x w1 =>
      rw [hrn] at h1
      cases x <;> simp [Oper.upon] at h1
  · cases h1
end
end Go.Proofs.YthiabbgkfmopiaaGreat

