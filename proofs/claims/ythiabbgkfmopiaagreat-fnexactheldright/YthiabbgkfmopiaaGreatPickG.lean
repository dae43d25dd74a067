/- As our text Pick, for the class of worlds in which all below B is left: for regions that draw their order, in which an append to a row of one's own (above B) stands ahead of quiet operations that need not wait for it. No program in it. -/
import Derived.Test.YthiabbgkfmopiaaGreatGen
import Derived.Test.YthiabbgkfmopiaaGreatPick
namespace Go.Proofs.YthiabbgkfmopiaaGreat.Gen
open Go Go.RowKit Go.Proofs.YthiabbgkfmopiaaGreat

/-- All below B is left. -/
theorem low_pre (B : Nat) : Pre (Below B) := ⟨fun _ _ _ h k => h.trans k, fun _ _ => ⟨rfl, rfl, rfl, Nat.le_refl _, fun _ _ => rfl⟩⟩
theorem low_cell {B : Nat} {V : World} {p : Addr} {v : Value} (h : V.cell? p = some v) (hl : p.block < B) : ∀ s : CW (Below B) V, s.w.cell? p = some v := fun s => by
  rw [World.cell?_of_block (w := V) (a := p) (s.h.block p.block hl)]
  exact h
theorem low_some (B : Nat) (V : World) : Nonempty (CW (Below B) V) := ⟨⟨V, Below.refl _ _⟩⟩

section
variable {P : Program} {ops : Array Oper} {md : Region.Mode} {Q' : Exit → Act → World → Prop} {last m : Nat} {R : World → World → Prop}

theorem wpM_pick (hPr : Pre R) (hlast : waitsT md ops last = true) (hs : Region.noSelect ops = true) {V : World} (fuel : Nat) : ∀ (is : List Nat) (L : Array Bool) (a : Act), okSeq md ops last L is = true → (opsAt ops is).all plainB = true →
    wpQuiet P ops (fun w' => ∃ s : CW R V, w' = s.w) (fun a' => wpM R P md ops Q' last m fuel (setAll L is) a' V) (opsAt ops is) a → wpM R P md ops Q' last m (is.length + fuel) L a V
  | [], L, a, _, _, h => by simpa [opsAt, wpQuiet, setAll] using h
  | i :: is, L, a, hok, hp, h => by
    simp only [okSeq, Bool.and_eq_true, decide_eq_true_eq] at hok
    obtain ⟨hil, hcl, hr, hf, hok'⟩ := hok
    have hr' : i ∈ Region.ready md ops L := by simpa using hr
    obtain ⟨-, o, h0, -⟩ := mem_ready.1 hr'
    have ho : opsAt ops (i :: is) = o :: opsAt ops is := by simp only [opsAt, h0]
    rw [ho] at h hp
    simp only [List.all_cons, Bool.and_eq_true] at hp
    have hst : qOp P ops (fun w' => ∃ s : CW R V, w' = s.w) i (wpQuiet P ops (fun w' => ∃ s : CW R V, w' = s.w) (fun a' => wpM R P md ops Q' last m fuel (setAll L (i :: is)) a' V) (opsAt ops is)) a := by unfold qOp; simp only [h0]; exact h
    obtain ⟨v, hy, hK⟩ := yieldsIn_of_qOp h0 hst
    have hrest := wpM_pick hPr hlast hs fuel is (L.setIfInBounds i true) (a.put o.dst v) hok' hp.2 hK
    rw [show (i :: is).length + fuel = (is.length + fuel) + 1 by simp; omega]
    refine wpM_first hPr hlast h0 hil (Region.noSelect_spec hs) (is.length + fuel) _ a V (closedB_spec hcl) (Region.free_spec h0 hf) hr' ?_ hrest
    rcases hy with ⟨hw, hv⟩ | ⟨hw, rfl⟩
    · refine .inl ⟨hw, fun w hw' => ?_⟩
      have h3 := hv w hw'
      unfold Oper.quietAt at h3
      cases hrn : (execOp a.eval o).run P w with
      | ok n w1 =>
        obtain ⟨u, rfl⟩ := plainB_value hp.1 a.eval w n w1 hrn
        rw [hrn] at h3
        obtain ⟨e1, e2⟩ := h3
        rw [e1, e2]
      | halt x w1 => rw [hrn] at h3; exact h3.elim
    · exact .inr ⟨hw, rfl⟩

theorem wpM_only {L : Array Bool} {i fuel : Nat} {a : Act} {V : World} (hr : Region.ready md ops L = [i]) (h : mOp R P ops i (wpM R P md ops Q' last m fuel (L.setIfInBounds i true)) a V) : wpM R P md ops Q' last m (fuel + 1) L a V :=
  ⟨by rw [hr]; simp, fun j hj => by rw [hr] at hj; rw [List.mem_singleton.1 hj]; exact h⟩

/-- Operations that make memory and call no function of the program. -/
def makesB (o : Oper) : Bool := match o.op with
  | .buildSlice .. => true
  | .call c => match c.callee with
    | .builtin .append => true
    | _ => false
  | _ => false
theorem makesB_value {o : Oper} (hp : makesB o = true) (ρ : Operand → Value) (w : World) (n : Next) (w' : World) (h : (execOp ρ o).run P w = .ok n w') : ∃ u, n = .value u := by
  unfold makesB at hp
  unfold execOp at h
  split at hp <;> rename_i ho <;> simp only [ho] at h
  · exact v_plain _ w n w' h
  · split at hp
    · rename_i hc
      simp only [resolve, hc, Sem.run_bind, Sem.run_pure, Result.andThen_ok, invoke, builtin] at h
      exact a_plain _ n w' h
    · cases hp
  · cases hp
theorem mOp_make {k : Nat} {o : Oper} {a : Act} {V : World} {K : Act → World → Prop} (h0 : ops[k]? = some o) (hw : Region.wanted o (yielded ops a.tmps) = true)
    (h : ∀ w, (∃ n, w = V.drewN n) → ∃ v w', (execOp a.eval o).run P w = .ok (.value v) w' ∧ (∃ s : CW R w, w' = s.w) ∧ K (a.put o.dst v) w') : mOp R P ops k K a V := by
  unfold mOp
  simp only [h0, hw, if_true]
  exact .inr fun w hw' => .inr (h w hw')
theorem mOp_call {k : Nat} {o : Oper} {a : Act} {V : World} {K : Act → World → Prop} (h0 : ops[k]? = some o) (hw : Region.wanted o (yielded ops a.tmps) = true)
    (f : FuncId) (args args' : Array Value) (hr : ∀ w, (execOp a.eval o).run P w = .ok (.enter f args) w) (he : args = args')
    (h : ∀ w, (∃ n, w = V.drewN n) → Calls P f args' w (fun e w' => ∃ v, e = .returned v ∧ (∃ s : CW R w, w' = s.w) ∧ K (a.put o.dst v) w')) : mOp R P ops k K a V := by
  subst he
  unfold mOp
  simp only [h0, hw, if_true]
  exact .inr fun w hw' => .inl ⟨f, args, hr w, h w hw'⟩
/-- In the midst of a region: these quiet operations next. -/
theorem wpM_more (hPr : Pre R) {V : World} {L : Array Bool} {a : Act} (is : List Nat) (n fuel : Nat) (hn : n = is.length + fuel) (hlast : waitsT md ops last = true) (hs : Region.noSelect ops = true) (hB : okSeq md ops last L is = true) (hp : (opsAt ops is).all plainB = true)
    (h : wpQuiet P ops (fun w' => ∃ s : CW R V, w' = s.w) (fun a' => wpM R P md ops Q' last m fuel (setAll L is) a' V) (opsAt ops is) a) : wpM R P md ops Q' last m n L a V := by
  subst hn
  exact wpM_pick hPr hlast hs fuel is L a hB hp h
/-- It makes memory: by the walk's own laws. -/
theorem mOp_list {k : Nat} {o : Oper} {a : Act} {V : World} {K : Act → World → Prop} (h0 : ops[k]? = some o) (hw : Region.wanted o (yielded ops a.tmps) = true) (hk : makesB o = true)
    (h : ∀ w, (∃ n, w = V.drewN n) → wpList P ops (fun e a' w' => e = .normal ∧ R w w' ∧ K a' w') [o] a w) : mOp R P ops k K a V := by
  unfold mOp
  simp only [h0, hw, if_true]
  refine .inr fun w hw' => .inr ?_
  have h1 := h w hw'
  unfold wpList at h1
  simp only [hw, if_true] at h1
  rcases h1 with h1 | ⟨-, a1, w1, h1, -⟩
  · unfold Oper.wp at h1
    cases hrn : (execOp a.eval o).run P w with
    | ok n w1 =>
      obtain ⟨u, rfl⟩ := makesB_value hk a.eval w n w1 hrn
      rw [hrn] at h1
      simp only [Oper.upon, wpList] at h1
      exact ⟨u, w1, rfl, ⟨⟨w1, h1.2.1⟩, rfl⟩, h1.2.2⟩
    | halt x w1 =>
      rw [hrn] at h1
      cases x <;> simp [Oper.upon] at h1
  · cases h1
theorem wpM_end {L : Array Bool} {a : Act} {V : World} (hL : L = upTo ops.size last) (hm : last + m = ops.size) (hB : (List.range' last m).all (fun i => okR md ops i && okOne md ops i) = true) (hp : 0 < m) (h : ∀ w, (∃ n, w = V.drewN n) → wpList P ops Q' (ops.toList.drop last) a w) : wpM R P md ops Q' last m 0 L a V := by
  subst hL
  exact wpM_tail hm hB hp h
theorem wp_region_pick (hPr : Pre R) {id : Nat} {a : Act} {w : World} (is : List Nat) (last k m : Nat) (hk : last = is.length + k) (hn : ops.size = last + m) (hm : P.follows .mixedOrders = true) (hs : Region.noSelect ops = true) (hlast : waitsT .any ops last = true) (hB : okSeq .any ops last (Array.replicate ops.size false) is = true) (hp : (opsAt ops is).all plainB = true)
    (h : wpQuiet P ops (fun w' => ∃ s : CW R w, w' = s.w) (fun a' => wpM R P .any ops Q' last m k (setAll (Array.replicate ops.size false) is) a' w) (opsAt ops is) a) : (Code.region id ops true).wp P Q' a w := by
  have h1 := wpM_pick hPr (Q' := Q') (m := m) hlast hs k is (Array.replicate ops.size false) a hB hp h
  refine wp_region_any hm ?_
  have h2 := wpAny_of_M hPr (is.length + k) _ a w { w with drawn := w.drawn + 1 } ⟨1, rfl⟩ h1
  rw [← hk, ← hn] at h2
  exact h2
end
end Go.Proofs.YthiabbgkfmopiaaGreat.Gen

