/- A region that draws its order and holds a call whose answer lies in new memory (not one value): walked once, in the order of the text. The worlds that may come up are those in which all that lay in V is left (HW V); a quiet operation goes on in the same class; behind the odd call one goes on in the class of the world that it left. Beside Derived/Deep/Quiet.lean. No program in it. -/
import Derived.Deep.Quiet
import Derived.BigQuiet
import Derived.Test.YthiabbgkfmopiaaGreatJoint6
namespace Go.Proofs.YthiabbgkfmopiaaGreat
open Go Go.RowKit

section
variable {P : Program} {ops : Array Oper} {md : Region.Mode} {Q' : Exit → Act → World → Prop}

theorem hw_refl (V : World) : ∃ s : HW V, V = s.w := ⟨⟨V, Below.refl _ _⟩, rfl⟩
theorem hw_trans {V w x : World} (h : ∃ s : HW V, w = s.w) (k : ∃ s : HW w, x = s.w) : ∃ s : HW V, x = s.w := by
  obtain ⟨s, rfl⟩ := h
  obtain ⟨t, rfl⟩ := k
  exact ⟨⟨t.w, Below.step s.h t.h⟩, rfl⟩

/-- Operations that yield a value and call nothing. -/
def plainB (o : Oper) : Bool := match o.op with
  | .move _ | .assign _ | .pick .. | .binOp .. | .unOp .. | .field .. | .fieldAddr .. | .indexAddr .. | .index .. | .load .. | .slice .. | .convert .. | .extract .. | .nilCheck _ | .build .. => true
  | .call c => match c.callee with
    | .builtin .len => true
    | _ => false
  | _ => false

theorem v_plain (s : Sem Value) (w : World) (n : Next) (w' : World) (h : (do pure (Next.value (← s)) : Sem Next).run P w = .ok n w') : ∃ u, n = .value u := by
  simp only [Sem.run_bind, Sem.run_pure] at h
  cases hs : s.run P w with
  | ok u w1 => rw [hs] at h; simp only [Result.andThen] at h; cases h; exact ⟨_, rfl⟩
  | halt x w1 => rw [hs] at h; simp only [Result.andThen] at h; cases h

theorem p_plain (s : Sem Bool) (x y : Value) (w : World) (n : Next) (w' : World) (h : (do pure (Next.value (if ← s then x else y)) : Sem Next).run P w = .ok n w') : ∃ u, n = .value u := by
  simp only [Sem.run_bind, Sem.run_pure] at h
  cases hs : s.run P w with
  | ok u w1 => rw [hs] at h; simp only [Result.andThen] at h; cases h; exact ⟨_, rfl⟩
  | halt x w1 => rw [hs] at h; simp only [Result.andThen] at h; cases h

theorem a_plain (r : Result Value) (n : Next) (w' : World) (h : (r.andThen fun a w' => Result.ok (Next.value a) w') = .ok n w') : ∃ u, n = .value u := by
  cases r with
  | ok u w1 => simp only [Result.andThen] at h; cases h; exact ⟨_, rfl⟩
  | halt x w1 => simp only [Result.andThen] at h; cases h

theorem and_ok {α β : Type} {r : Result α} {f : α → World → Result β} {n : β} {w' : World} (h : r.andThen f = .ok n w') : ∃ a w1, f a w1 = .ok n w' := by
  cases r with
  | ok u w1 => exact ⟨u, w1, h⟩
  | halt x w1 => simp only [Result.andThen] at h; cases h

theorem plainB_value {o : Oper} (hp : plainB o = true) (ρ : Operand → Value) (w : World) (n : Next) (w' : World) (h : (execOp ρ o).run P w = .ok n w') : ∃ u, n = .value u := by
  unfold plainB at hp
  unfold execOp at h
  split at hp <;> rename_i ho <;> simp only [ho] at h
  all_goals first | exact v_plain _ w n w' h | skip
  all_goals first | (simp only [Sem.run_pure] at h; cases h; exact ⟨_, rfl⟩) | skip
  all_goals first | exact p_plain _ _ _ w n w' h | skip
  · split at h
    · simp [runtimePanic] at h
    · simp [runtimePanic] at h
    · simp [runtimePanic] at h
    · split at h
      · simp [runtimePanic] at h
      · simp only [Sem.run_bind] at h
        obtain ⟨a1, w1, h⟩ := and_ok h
        obtain ⟨a2, w2, h⟩ := and_ok h
        split at h
        · simp only [Sem.run_bind, Sem.run_pure] at h
          obtain ⟨a3, w3, h⟩ := and_ok h
          cases h; exact ⟨_, rfl⟩
        · simp only [Sem.run_pure] at h; cases h; exact ⟨_, rfl⟩
      · simp only [Sem.run_pure] at h; cases h; exact ⟨_, rfl⟩
    · simp only [Sem.run_pure] at h; cases h; exact ⟨_, rfl⟩
  · split at hp
    · rename_i hc
      simp only [resolve, hc, Sem.run_bind, Sem.run_pure, Result.andThen_ok, invoke, builtin] at h
      exact a_plain _ n w' h
    · cases hp
  · cases hp

/-- Operation number i comes up in state a, in the class of V. -/
def gOp (P : Program) (ops : Array Oper) (i : Nat) (K : Act → World → Prop) (a : Act) (V : World) : Prop :=
  match ops[i]? with
  | none => K a V
  | some o => if Region.wanted o (yielded ops a.tmps) then
      (∃ v, (∀ w, (∃ s : HW V, w = s.w) → o.quietAt P a (fun w' => ∃ s : HW V, w' = s.w) w v) ∧ K (a.put o.dst v) V) ∨
      (∀ w, (∃ s : HW V, w = s.w) → ∃ f args, (execOp a.eval o).run P w = .ok (.enter f args) w ∧ Calls P f args w (fun e w' => ∃ v, e = .returned v ∧ (∃ s : HW w, w' = s.w) ∧ K (a.put o.dst v) w'))
    else K (a.put o.dst undef) V

def wpG (P : Program) (md : Region.Mode) (ops : Array Oper) (Q' : Exit → Act → World → Prop) : Nat → Array Bool → Act → World → Prop
  | 0, listed, a, V => Region.ready md ops listed = [] ∧ ∀ w, (∃ s : HW V, w = s.w) → Q' .normal a w
  | fuel + 1, listed, a, V => Region.ready md ops listed ≠ [] ∧ ∀ i ∈ Region.ready md ops listed, gOp P ops i (wpG P md ops Q' fuel (listed.setIfInBounds i true)) a V

theorem gOp_wp {i : Nat} {K : Act → World → Prop} {K' : Act → World → Prop} {a : Act} {V w : World} (hw : ∃ s : HW V, w = s.w) (h : ∀ a' V' w', (∃ s : HW V', w' = s.w) → K a' V' → K' a' w') (hh : gOp P ops i K a V) : wpOp P ops Q' i K' a w := by
  unfold gOp at hh
  unfold wpOp
  split
  · rename_i ho; simp only [ho] at hh; exact h _ _ _ hw hh
  · rename_i o ho
    simp only [ho] at hh
    split
    · rename_i hwt
      simp only [hwt, if_true] at hh
      rcases hh with ⟨v, h1, h2⟩ | h1
      · exact .inl (Oper.wp_of_quiet (C := fun w' => ∃ s : HW V, w' = s.w) (K := fun a' => K a' V) hw (fun a' w' hw' hk => h a' V w' hw' hk) ⟨v, h1, h2⟩)
      · obtain ⟨f, args, hr, hc⟩ := h1 w hw
        refine .inl ?_
        unfold Oper.wp
        rw [hr]
        simp only [Oper.upon]
        exact hc.mono fun e w'' ⟨v, he, hs, hk⟩ => by subst he; exact h _ _ _ (hw_refl w'') hk
    · rename_i hwt
      simp only [hwt] at hh
      exact h _ _ _ hw hh

theorem wpAny_of_G : ∀ (fuel : Nat) (listed : Array Bool) (a : Act) (V w : World), (∃ s : HW V, w = s.w) → wpG P md ops Q' fuel listed a V → wpAny P md ops Q' fuel listed a w
  | 0, _, _, _, _, hw, h => ⟨h.1, h.2 _ hw⟩
  | fuel + 1, _, _, _, _, hw, h => ⟨fun h0 => absurd h0 h.1, fun i hi => gOp_wp hw (fun a' V' w' hw' hk => wpAny_of_G fuel _ a' V' w' hw' hk) (h.2 i hi)⟩

/-- Calm: one value in every world of the class, no call. -/
def Calm (P : Program) (ops : Array Oper) (o : Oper) (v : Value) (a : Act) (V : World) : Prop :=
  (Region.wanted o (yielded ops a.tmps) = true ∧ ∀ w, (∃ s : HW V, w = s.w) → (execOp a.eval o).run P w = .ok (.value v) w) ∨
  (Region.wanted o (yielded ops a.tmps) = false ∧ v = undef)

theorem Calm.down {o : Oper} {v : Value} {a : Act} {V w : World} (h : Calm P ops o v a V) (hw : ∃ s : HW V, w = s.w) : Calm P ops o v a w := by
  rcases h with ⟨h1, h2⟩ | h
  · exact .inl ⟨h1, fun x hx => h2 x (hw_trans hw hx)⟩
  · exact .inr h
theorem Calm.same {o : Oper} {v : Value} {a a' : Act} {V : World} (h : Calm P ops o v a V) (he : execOp a'.eval o = execOp a.eval o) (hw : Region.wanted o (yielded ops a'.tmps) = Region.wanted o (yielded ops a.tmps)) : Calm P ops o v a' V := by
  unfold Calm at *
  rw [he, hw]
  exact h
theorem Calm.gOp {i : Nat} {o : Oper} {v : Value} {a : Act} {V : World} (hi : ops[i]? = some o) (h : Calm P ops o v a V) {K : Act → World → Prop} (hk : K (a.put o.dst v) V) : gOp P ops i K a V := by
  unfold Go.Proofs.YthiabbgkfmopiaaGreat.gOp
  simp only [hi]
  rcases h with ⟨hw, hv⟩ | ⟨hw, rfl⟩
  · simp only [hw, if_true]
    refine .inl ⟨v, fun w hw' => ?_, hk⟩
    unfold Oper.quietAt
    rw [hv w hw']
    exact ⟨rfl, rfl⟩
  · simp only [hw, Bool.false_eq_true, if_false]; exact hk

/-- One operation 'oj', apart from the calm 'oi'. -/
theorem gOp_put {j : Nat} {oi oj : Oper} {v : Value} (hj : ops[j]? = some oj) (hap : oi.apart ops oj = true)
    (hsi : ∀ cs b, oi.op ≠ .select cs b) (hsj : ∀ cs b, oj.op ≠ .select cs b) {K : Act → World → Prop} {a : Act} {V : World}
    (hy : Calm P ops oi v a V) (h : gOp P ops j K (a.put oi.dst v) V) :
    gOp P ops j (fun a' V' => Calm P ops oi v a' V' ∧ K (a'.put oi.dst v) V') a V := by
  obtain ⟨h1, h2, h3⟩ := Oper.apart_spec hap
  have keep : ∀ u, Calm P ops oi v (a.put oj.dst u) V := fun u =>
    hy.same (execOp_put oi hsi a oj.dst u h3) (wanted_put oi a oj.dst u h3)
  unfold gOp at *
  simp only [hj] at *
  rw [wanted_put oj a oi.dst v h1] at h
  split
  · rename_i hw
    simp only [hw, if_true] at h
    rcases h with ⟨u, hu, hn⟩ | ho
    · refine .inl ⟨u, fun w hw' => ?_, keep u, by rw [← Act.put_comm a v u h2]; exact hn⟩
      have := hu w hw'
      unfold Oper.quietAt at *
      rwa [execOp_put oj hsj a oi.dst v h1] at this
    · refine .inr (fun w hw' => ?_)
      obtain ⟨f, args, hr, hc⟩ := ho w hw'
      rw [execOp_put oj hsj a oi.dst v h1] at hr
      exact ⟨f, args, hr, hc.mono fun e w'' ⟨u, he, hs, hk⟩ => ⟨u, he, hs, (keep u).down (hw_trans hw' hs), by rw [← Act.put_comm a v u h2]; exact hk⟩⟩
  · rename_i hw
    simp only [hw] at h
    exact ⟨keep _, by rw [← Act.put_comm a v undef h2]; exact h⟩

theorem gOp_mono {i : Nat} {a : Act} {V : World} {K K' : Act → World → Prop} (h : ∀ a V, K a V → K' a V) (hh : gOp P ops i K a V) : gOp P ops i K' a V := by
  unfold gOp at *
  split
  · exact h _ _ (by simpa [*] using hh)
  · rename_i o ho
    simp only [ho] at hh
    split
    · rename_i hw
      simp only [hw, if_true] at hh
      rcases hh with ⟨u, hu, hn⟩ | ho
      · exact .inl ⟨u, hu, h _ _ hn⟩
      · exact .inr fun w hw' => by
          obtain ⟨f, args, hr, hc⟩ := ho w hw'
          exact ⟨f, args, hr, hc.mono fun e w'' ⟨u, he, hs, hk⟩ => ⟨u, he, hs, h _ _ hk⟩⟩
    · rename_i hw; simp only [hw] at hh; exact h _ _ hh

theorem wpG_first {i : Nat} {oi : Oper} {v : Value} (hi : ops[i]? = some oi) (hsel : ∀ (j : Nat) (o : Oper) cs b, ops[j]? = some o → o.op ≠ .select cs b) :
    ∀ (fuel : Nat) (listed : Array Bool) (a : Act) (V : World),
      (∀ j oj, ops[j]? = some oj → j ≠ i → listed.getD j true = false → (∀ e ∈ oj.after, Region.binds md e = true → e.on ≠ i) → oi.apart ops oj = true) →
      i ∈ Region.ready md ops listed → Calm P ops oi v a V →
      wpG P md ops Q' fuel (listed.setIfInBounds i true) (a.put oi.dst v) V → wpG P md ops Q' (fuel + 1) listed a V := by
  intro fuel
  induction fuel with
  | zero =>
    intro listed a V _ hr hy H
    refine ⟨fun h => (by rw [h] at hr; cases hr), fun j hj => ?_⟩
    by_cases hji : j = i
    · subst hji; exact hy.gOp hi H
    · have := ready_mono hj hji
      rw [H.1] at this
      cases this
  | succ fuel ih =>
    intro listed a V hfree hr hy H
    refine ⟨fun h => (by rw [h] at hr; cases hr), fun j hj => ?_⟩
    by_cases hji : j = i
    · subst hji; exact hy.gOp hi H
    · have h1 := H.2 j (ready_mono hj hji)
      obtain ⟨hjun, oj, hoj, hall⟩ := mem_ready.1 hj
      have hnot : ∀ e ∈ oj.after, Region.binds md e = true → e.on ≠ i := fun e he hb heq => by
        have h1 := hall e he hb
        have h0 := (mem_ready.1 hr).1
        rw [heq] at h1
        rcases Nat.lt_or_ge i listed.size with h' | h'
        · simp [h'] at h0 h1; rw [h0] at h1; cases h1
        · simp [Array.getElem?_eq_none h'] at h1
      have h2 := gOp_put hoj (hfree j oj hoj hji hjun hnot) (fun cs b => hsel i oi cs b hi) (fun cs b => hsel j oj cs b hoj) hy h1
      have hfree' : ∀ k ok, ops[k]? = some ok → k ≠ i → (listed.setIfInBounds j true).getD k true = false →
          (∀ e ∈ ok.after, Region.binds md e = true → e.on ≠ i) → oi.apart ops ok = true := fun k ok hk hki hun hno => by
        refine hfree k ok hk hki ?_ hno
        by_cases hjk : j = k
        · subst hjk; exact hjun
        · rw [getD_set_ne true hjk] at hun; exact hun
      refine gOp_mono (fun a' V' h3 => ih (listed.setIfInBounds j true) a' V' hfree' (ready_mono hr (Ne.symm hji)) h3.1 ?_) h2
      rw [Array.setIfInBounds_comm _ _ hji]
      exact h3.2

/-- The first k operations have come up. -/
def upTo (n k : Nat) : Array Bool := Array.ofFn (n := n) (fun i => decide (i.val < k))
theorem upTo_at (n k j : Nat) (d : Bool) : (upTo n k).getD j d = if j < n then decide (j < k) else d := by
  unfold upTo
  by_cases h : j < n
  · simp [h]
  · simp [h]
theorem upTo_zero (n : Nat) : Array.replicate n false = upTo n 0 := by
  apply Array.ext_getElem?
  intro i
  by_cases h : i < n
  · simp [upTo, h]
  · simp [upTo, h]
theorem upTo_succ (n k : Nat) : (upTo n k).setIfInBounds k true = upTo n (k + 1) := by
  apply Array.ext_getElem?
  intro i
  by_cases h : i < n
  · by_cases hk : k = i
    · subst hk; simp [upTo, h]
    · rw [Array.getElem?_setIfInBounds_ne hk]
      simp [upTo, h]
      omega
  · by_cases hk : k = i
    · subst hk; simp [upTo, h]
    · rw [Array.getElem?_setIfInBounds_ne hk]
      simp [upTo, h]

/-- Operation k may come up once those ahead of it have; of those behind it each waits for it or is apart. -/
def okR (md : Region.Mode) (ops : Array Oper) (k : Nat) : Bool := match ops[k]? with
  | some o => o.after.toList.all (fun e => !(Region.binds md e) || decide (e.on < k))
  | none => false
def okF (md : Region.Mode) (ops : Array Oper) (k : Nat) : Bool := match ops[k]? with
  | some o => (List.range ops.size).all (fun j => decide (j ≤ k) || (match ops[j]? with
    | some oj => oj.after.toList.any (fun e => Region.binds md e && e.on == k) || o.apart ops oj
    | none => true))
  | none => false
/-- Nothing else can come up. -/
def okOne (md : Region.Mode) (ops : Array Oper) (k : Nat) : Bool := (List.range ops.size).all (fun j => decide (j ≤ k) || (match ops[j]? with
    | some oj => oj.after.toList.any (fun e => Region.binds md e && decide (k ≤ e.on))
    | none => true))

theorem okR_spec {k : Nat} (h : okR md ops k = true) : k ∈ Region.ready md ops (upTo ops.size k) := by
  unfold okR at h
  split at h
  · rename_i o ho
    have hk : k < ops.size := (Array.getElem?_eq_some_iff.1 ho).1
    rw [mem_ready]
    refine ⟨by rw [upTo_at]; simp [hk], o, ho, fun e he hb => ?_⟩
    have h1 := (List.all_eq_true.1 h) e (by simpa using he)
    simp only [hb, Bool.not_true, Bool.false_or, decide_eq_true_eq] at h1
    rw [upTo_at, if_pos (by omega)]
    simpa using h1
  · cases h
theorem okF_spec {k : Nat} {o : Oper} (ho : ops[k]? = some o) (h : okF md ops k = true) : ∀ j oj, ops[j]? = some oj → j ≠ k → (upTo ops.size k).getD j true = false → (∀ e ∈ oj.after, Region.binds md e = true → e.on ≠ k) → o.apart ops oj = true := by
  intro j oj hj hjk hun hno
  have hjs : j < ops.size := (Array.getElem?_eq_some_iff.1 hj).1
  rw [upTo_at, if_pos hjs] at hun
  simp only [decide_eq_false_iff_not] at hun
  unfold okF at h
  simp only [ho] at h
  have h1 := (List.all_eq_true.1 h) j (by simpa using hjs)
  simp only [hj, Bool.or_eq_true, decide_eq_true_eq, List.any_eq_true, Bool.and_eq_true, beq_iff_eq] at h1
  rcases h1 with h1 | ⟨e, he, hb, hon⟩ | h1
  · omega
  · exact absurd hon (hno e (by simpa using he) hb)
  · exact h1
theorem okOne_spec {k : Nat} (h : okOne md ops k = true) : ∀ j ∈ Region.ready md ops (upTo ops.size k), j = k := by
  intro j hj
  obtain ⟨hun, oj, ho, hall⟩ := mem_ready.1 hj
  have hjs : j < ops.size := (Array.getElem?_eq_some_iff.1 ho).1
  rw [upTo_at, if_pos hjs] at hun
  simp only [decide_eq_false_iff_not] at hun
  unfold okOne at h
  have h1 := (List.all_eq_true.1 h) j (by simpa using hjs)
  simp only [ho, Bool.or_eq_true, decide_eq_true_eq, List.any_eq_true, Bool.and_eq_true] at h1
  rcases h1 with h1 | ⟨e, he, hb, hon⟩
  · omega
  · have h2 := hall e (by simpa using he) hb
    rw [upTo_at] at h2
    split at h2
    · simp at h2; omega
    · cases h2
theorem ready_end : Region.ready md ops (upTo ops.size ops.size) = [] := by
  rw [List.eq_nil_iff_forall_not_mem]
  intro j hj
  obtain ⟨hun, oj, ho, -⟩ := mem_ready.1 hj
  have hjs : j < ops.size := (Array.getElem?_eq_some_iff.1 ho).1
  rw [upTo_at, if_pos hjs] at hun
  simp at hun
  omega

/-- A run of quiet operations that call nothing. -/
theorem wpG_seg (hs : Region.noSelect ops = true) {V : World} (fuel : Nat) : ∀ (l : List Oper) (k : Nat) (a : Act), (∀ j, j < l.length → l[j]? = ops[k + j]?) → l.all plainB = true →
    (List.range' k l.length).all (fun i => okR md ops i && okF md ops i) = true → wpQuiet P ops (fun w' => ∃ s : HW V, w' = s.w) (fun a' => wpG P md ops Q' fuel (upTo ops.size (k + l.length)) a' V) l a → wpG P md ops Q' (l.length + fuel) (upTo ops.size k) a V
  | [], k, a, _, _, _, h => by simpa [wpQuiet] using h
  | o :: l, k, a, hl, hp, hB, h => by
    have h0 : ops[k]? = some o := by simpa using (hl 0 (by simp)).symm
    simp only [List.all_cons, Bool.and_eq_true] at hp
    simp only [List.length_cons, List.range'_succ, List.all_cons, Bool.and_eq_true] at hB
    obtain ⟨⟨hr, hf⟩, hB'⟩ := hB
    have hst : qOp P ops (fun w' => ∃ s : HW V, w' = s.w) k (wpQuiet P ops (fun w' => ∃ s : HW V, w' = s.w) (fun a' => wpG P md ops Q' fuel (upTo ops.size (k + (l.length + 1))) a' V) l) a := by unfold qOp; simp only [h0]; exact h
    obtain ⟨v, hy, hK⟩ := yieldsIn_of_qOp h0 hst
    rw [show k + (l.length + 1) = k + 1 + l.length by omega] at hK
    have hrest := wpG_seg hs fuel l (k + 1) (a.put o.dst v) (fun j hj => by have := hl (j + 1) (by simpa using hj); simpa [Nat.add_assoc, Nat.add_comm 1 j] using this) hp.2 hB' hK
    rw [← upTo_succ] at hrest
    rw [show (o :: l).length + fuel = (l.length + fuel) + 1 by simp; omega]
    refine wpG_first h0 (Region.noSelect_spec hs) (l.length + fuel) _ a V (okF_spec h0 hf) (okR_spec hr) ?_ hrest
    rcases hy with ⟨hw, hv⟩ | ⟨hw, rfl⟩
    · refine .inl ⟨hw, fun w hw' => ?_⟩
      have h3 := hv w hw'
      unfold Oper.quietAt at h3
      cases hrn : (execOp a.eval o).run P w with
      | ok n w1 =>
        obtain ⟨u, rfl⟩ := plainB_value hp.1 a.eval w n w1 hrn
        rw [hrn] at h3
        obtain ⟨e1, e2⟩ := h3
        rw [e1, e2]
      | halt x w1 => rw [hrn] at h3; exact h3.elim
    · exact .inr ⟨hw, rfl⟩

/-- The odd call: it alone can come up. -/
theorem wpG_call {k : Nat} {o : Oper} {fuel : Nat} {a : Act} {V : World} (h0 : ops[k]? = some o) (hr1 : okR md ops k = true) (hone : okOne md ops k = true) (hw : Region.wanted o (yielded ops a.tmps) = true)
    (f : FuncId) (args args' : Array Value) (hr : ∀ w, (execOp a.eval o).run P w = .ok (.enter f args) w) (he : args = args')
    (h : ∀ w, (∃ s : HW V, w = s.w) → Calls P f args' w (fun e w' => ∃ v, e = .returned v ∧ (∃ s : HW w, w' = s.w) ∧ wpG P md ops Q' fuel (upTo ops.size (k + 1)) (a.put o.dst v) w')) : wpG P md ops Q' (fuel + 1) (upTo ops.size k) a V := by
  subst he
  have hk := okR_spec hr1
  refine ⟨fun e => (by rw [e] at hk; cases hk), fun i hi => ?_⟩
  rw [okOne_spec hone i hi, upTo_succ]
  unfold gOp
  simp only [h0, hw, if_true]
  exact .inr fun w hw' => ⟨f, args, hr w, h w hw'⟩

/-- An operation that is not wanted (its guard says no): it alone can come up. -/
theorem wpG_skip {k : Nat} {o : Oper} {fuel : Nat} {a : Act} {V : World} (h0 : ops[k]? = some o) (hr1 : okR md ops k = true) (hone : okOne md ops k = true) (hw : Region.wanted o (yielded ops a.tmps) = false)
    (h : wpG P md ops Q' fuel (upTo ops.size (k + 1)) (a.put o.dst undef) V) : wpG P md ops Q' (fuel + 1) (upTo ops.size k) a V := by
  have hk := okR_spec hr1
  refine ⟨fun e => (by rw [e] at hk; cases hk), fun i hi => ?_⟩
  rw [okOne_spec hone i hi, upTo_succ]
  unfold gOp
  simp only [h0, hw, Bool.false_eq_true, if_false]
  exact h

theorem wp_region_odd {id : Nat} {a : Act} {w : World} (hm : P.follows .mixedOrders = true) (h : wpG P .any ops Q' ops.size (upTo ops.size 0) a w) : (Code.region id ops true).wp P Q' a w :=
  wp_region_any hm (by rw [upTo_zero]; exact wpAny_of_G _ _ _ w _ ⟨⟨w.drew, (Below.refl _ _).drew⟩, rfl⟩ h)
/-- The region's beginning: n quiet operations, then what is left. -/
theorem wp_region_odd_seg {id : Nat} {a : Act} {w : World} (n m : Nat) (hn : ops.size = n + m) (hm : P.follows .mixedOrders = true) (hs : Region.noSelect ops = true) (hB : (List.range' 0 n).all (fun i => okR .any ops i && okF .any ops i) = true) (hp : (ops.toList.take n).all plainB = true)
    (h : wpQuiet P ops (fun w' => ∃ s : HW w, w' = s.w) (fun a' => wpG P .any ops Q' m (upTo ops.size n) a' w) (ops.toList.take n) a) : (Code.region id ops true).wp P Q' a w := by
  refine wp_region_odd hm ?_
  have hlen : (ops.toList.take n).length = n := by simp; omega
  have := wpG_seg (Q' := Q') hs m (ops.toList.take n) 0 a (fun j hj => by rw [List.getElem?_take_of_lt (by omega)]; simp) hp (by rw [hlen]; exact hB) (by rw [hlen, Nat.zero_add]; exact h)
  rw [hlen] at this
  rw [← hn] at this
  exact this
/-- From operation k on: n quiet operations. -/
theorem wpG_next {a : Act} {V : World} (k n m : Nat) (hn : k + n ≤ ops.size) (hs : Region.noSelect ops = true) (hB : (List.range' k n).all (fun i => okR md ops i && okF md ops i) = true) (hp : ((ops.toList.drop k).take n).all plainB = true)
    (h : wpQuiet P ops (fun w' => ∃ s : HW V, w' = s.w) (fun a' => wpG P md ops Q' m (upTo ops.size (k + n)) a' V) ((ops.toList.drop k).take n) a) : wpG P md ops Q' (n + m) (upTo ops.size k) a V := by
  have hlen : ((ops.toList.drop k).take n).length = n := by simp; omega
  have := wpG_seg (Q' := Q') hs m ((ops.toList.drop k).take n) k a (fun j hj => by rw [List.getElem?_take_of_lt (by omega), List.getElem?_drop]; simp) hp (by rw [hlen]; exact hB) (by rw [hlen]; exact h)
  rw [hlen] at this
  exact this
theorem wpG_end {k : Nat} {a : Act} {V : World} (hk : k = ops.size) (h : ∀ w, (∃ s : HW V, w = s.w) → Q' .normal a w) : wpG P md ops Q' 0 (upTo ops.size k) a V := by
  subst hk
  exact ⟨ready_end, h⟩

/-- The first k operations and those of xs have come up. -/
def upX (n k : Nat) (xs : List Nat) : Array Bool := Array.ofFn (n := n) (fun i => decide (i.val < k) || xs.contains i.val)
theorem upX_at (n k : Nat) (xs : List Nat) (j : Nat) (d : Bool) : (upX n k xs).getD j d = if j < n then (decide (j < k) || xs.contains j) else d := by
  unfold upX
  by_cases h : j < n
  · simp [h]
  · simp [h]
theorem upX_nil (n k : Nat) : upTo n k = upX n k [] := by
  apply Array.ext_getElem?
  intro i
  by_cases h : i < n
  · simp [upTo, upX, h]
  · simp [upTo, upX, h]
theorem upX_join (n x : Nat) : upX n x [x] = upTo n (x + 1) := by
  apply Array.ext_getElem?
  intro i
  by_cases h : i < n
  · simp [upTo, upX, h]
    by_cases e : i = x
    · simp [e]
    · simp [e]; omega
  · simp [upTo, upX, h]
theorem upX_eq {n k m : Nat} {xs : List Nat} (h : (List.range n).all (fun i => (decide (i < k) || xs.contains i) == decide (i < m)) = true) : upX n k xs = upTo n m := by
  apply Array.ext_getElem?
  intro i
  by_cases hi : i < n
  · have h1 := (List.all_eq_true.1 h) i (List.mem_range.2 hi)
    simp only [beq_iff_eq] at h1
    simp [upTo, upX, hi]
    simpa using h1
  · simp [upTo, upX, hi]
theorem upX_succ (n k : Nat) (xs : List Nat) : (upX n k xs).setIfInBounds k true = upX n (k + 1) xs := by
  apply Array.ext_getElem?
  intro i
  by_cases h : i < n
  · by_cases hk : k = i
    · subst hk; simp [upX, h]
    · rw [Array.getElem?_setIfInBounds_ne hk]
      have e : decide (i < k) = decide (i < k + 1) := by simp; omega
      simp [upX, h, e]
  · by_cases hk : k = i
    · subst hk; simp [upX, h]
    · rw [Array.getElem?_setIfInBounds_ne hk]
      simp [upX, h]
theorem upX_early (n k x : Nat) (xs : List Nat) : (upX n k xs).setIfInBounds x true = upX n k (x :: xs) := by
  apply Array.ext_getElem?
  intro i
  by_cases h : i < n
  · by_cases hk : x = i
    · subst hk; simp [upX, h]
    · rw [Array.getElem?_setIfInBounds_ne hk]
      simp [upX, h, Ne.symm hk]
  · by_cases hk : x = i
    · subst hk; simp [upX, h]
    · rw [Array.getElem?_setIfInBounds_ne hk]
      simp [upX, h]
def okRX (md : Region.Mode) (ops : Array Oper) (k : Nat) (xs : List Nat) (i : Nat) : Bool := match ops[i]? with
  | some o => decide (k ≤ i) && !xs.contains i && o.after.toList.all (fun e => !(Region.binds md e) || (decide (e.on < ops.size) && (decide (e.on < k) || xs.contains e.on)))
  | none => false
def okFX (md : Region.Mode) (ops : Array Oper) (k : Nat) (xs : List Nat) (i : Nat) : Bool := match ops[i]? with
  | some o => (List.range ops.size).all (fun j => (decide (j < k) || xs.contains j) || j == i || (match ops[j]? with
    | some oj => oj.after.toList.any (fun e => Region.binds md e && e.on == i) || o.apart ops oj
    | none => true))
  | none => false
def okOneX (md : Region.Mode) (ops : Array Oper) (k : Nat) (xs : List Nat) (i : Nat) : Bool := (List.range ops.size).all (fun j => (decide (j < k) || xs.contains j) || j == i || (match ops[j]? with
    | some oj => oj.after.toList.any (fun e => Region.binds md e && decide (e.on < ops.size) && !(decide (e.on < k) || xs.contains e.on))
    | none => true))
theorem okRX_spec {k i : Nat} {xs : List Nat} (h : okRX md ops k xs i = true) : i ∈ Region.ready md ops (upX ops.size k xs) := by
  unfold okRX at h
  split at h
  · rename_i o ho
    have hk : i < ops.size := (Array.getElem?_eq_some_iff.1 ho).1
    simp only [Bool.and_eq_true, decide_eq_true_eq, Bool.not_eq_true'] at h
    obtain ⟨⟨h1, h2⟩, h3⟩ := h
    rw [mem_ready]
    refine ⟨by rw [upX_at, if_pos hk, h2]; simp; omega, o, ho, fun e he hb => ?_⟩
    have h4 := (List.all_eq_true.1 h3) e (by simpa using he)
    simp only [hb, Bool.not_true, Bool.false_or, Bool.and_eq_true, decide_eq_true_eq] at h4
    rw [upX_at, if_pos h4.1]
    exact h4.2
  · cases h
theorem okFX_spec {k i : Nat} {xs : List Nat} {o : Oper} (ho : ops[i]? = some o) (h : okFX md ops k xs i = true) : ∀ j oj, ops[j]? = some oj → j ≠ i → (upX ops.size k xs).getD j true = false → (∀ e ∈ oj.after, Region.binds md e = true → e.on ≠ i) → o.apart ops oj = true := by
  intro j oj hj hji hun hno
  have hjs : j < ops.size := (Array.getElem?_eq_some_iff.1 hj).1
  rw [upX_at, if_pos hjs] at hun
  unfold okFX at h
  simp only [ho] at h
  have h1 := (List.all_eq_true.1 h) j (by simpa using hjs)
  simp only [hun, hj, Bool.false_or, Bool.or_eq_true, beq_iff_eq, List.any_eq_true, Bool.and_eq_true] at h1
  rcases h1 with h1 | ⟨e, he, hb, hon⟩ | h1
  · exact absurd h1 hji
  · exact absurd hon (hno e (by simpa using he) hb)
  · exact h1
theorem okOneX_spec {k i : Nat} {xs : List Nat} (h : okOneX md ops k xs i = true) : ∀ j ∈ Region.ready md ops (upX ops.size k xs), j = i := by
  intro j hj
  obtain ⟨hun, oj, ho, hall⟩ := mem_ready.1 hj
  have hjs : j < ops.size := (Array.getElem?_eq_some_iff.1 ho).1
  rw [upX_at, if_pos hjs] at hun
  unfold okOneX at h
  have h1 := (List.all_eq_true.1 h) j (by simpa using hjs)
  simp only [hun, ho, Bool.false_or, Bool.or_eq_true, beq_iff_eq, List.any_eq_true, Bool.and_eq_true, decide_eq_true_eq, Bool.not_eq_true'] at h1
  rcases h1 with h1 | ⟨e, he, ⟨hb, hlt⟩, hon⟩
  · exact h1
  · have h2 := hall e (by simpa using he) hb
    rw [upX_at, if_pos hlt, hon] at h2
    cases h2
theorem calm_of_quiet {i : Nat} {o : Oper} {a : Act} {V : World} {K : Act → Prop} (h0 : ops[i]? = some o) (hp : plainB o = true) (h : wpQuiet P ops (fun w' => ∃ s : HW V, w' = s.w) K [o] a) : ∃ v, Calm P ops o v a V ∧ K (a.put o.dst v) := by
  have hst : qOp P ops (fun w' => ∃ s : HW V, w' = s.w) i (wpQuiet P ops (fun w' => ∃ s : HW V, w' = s.w) K []) a := by unfold qOp; simp only [h0]; exact h
  obtain ⟨v, hy, hK⟩ := yieldsIn_of_qOp h0 hst
  refine ⟨v, ?_, hK⟩
  rcases hy with ⟨hw, hv⟩ | ⟨hw, rfl⟩
  · refine .inl ⟨hw, fun w hw' => ?_⟩
    have h3 := hv w hw'
    unfold Oper.quietAt at h3
    cases hrn : (execOp a.eval o).run P w with
    | ok n w1 =>
      obtain ⟨u, rfl⟩ := plainB_value hp a.eval w n w1 hrn
      rw [hrn] at h3
      obtain ⟨e1, e2⟩ := h3
      rw [e1, e2]
    | halt x w1 => rw [hrn] at h3; exact h3.elim
  · exact .inr ⟨hw, rfl⟩
/-- A quiet operation that stands behind the odd call in the text, but need not wait for it: taken ahead of it. -/
theorem wpG_early {k x : Nat} {xs : List Nat} {o : Oper} {fuel : Nat} {a : Act} {V : World} (h0 : ops[x]? = some o) (hs : Region.noSelect ops = true) (hr : okRX md ops k xs x = true) (hf : okFX md ops k xs x = true) (hp : plainB o = true)
    (h : wpQuiet P ops (fun w' => ∃ s : HW V, w' = s.w) (fun a' => wpG P md ops Q' fuel (upX ops.size k (x :: xs)) a' V) [o] a) : wpG P md ops Q' (fuel + 1) (upX ops.size k xs) a V := by
  obtain ⟨v, hy, hK⟩ := calm_of_quiet h0 hp h
  rw [← upX_early] at hK
  exact wpG_first h0 (Region.noSelect_spec hs) fuel _ a V (okFX_spec h0 hf) (okRX_spec hr) hy hK
theorem wpG_callX {k : Nat} {xs : List Nat} {o : Oper} {fuel : Nat} {a : Act} {V : World} (h0 : ops[k]? = some o) (hr1 : okRX md ops k xs k = true) (hone : okOneX md ops k xs k = true) (hw : Region.wanted o (yielded ops a.tmps) = true)
    (f : FuncId) (args args' : Array Value) (hr : ∀ w, (execOp a.eval o).run P w = .ok (.enter f args) w) (he : args = args')
    (h : ∀ w, (∃ s : HW V, w = s.w) → Calls P f args' w (fun e w' => ∃ v, e = .returned v ∧ (∃ s : HW w, w' = s.w) ∧ wpG P md ops Q' fuel (upX ops.size (k + 1) xs) (a.put o.dst v) w')) : wpG P md ops Q' (fuel + 1) (upX ops.size k xs) a V := by
  subst he
  have hk := okRX_spec hr1
  refine ⟨fun e => (by rw [e] at hk; cases hk), fun i hi => ?_⟩
  rw [okOneX_spec hone i hi, upX_succ]
  unfold gOp
  simp only [h0, hw, if_true]
  exact .inr fun w hw' => ⟨f, args, hr w, h w hw'⟩
theorem wpG_skipX {k : Nat} {xs : List Nat} {o : Oper} {fuel : Nat} {a : Act} {V : World} (h0 : ops[k]? = some o) (hr1 : okRX md ops k xs k = true) (hone : okOneX md ops k xs k = true) (hw : Region.wanted o (yielded ops a.tmps) = false)
    (h : wpG P md ops Q' fuel (upX ops.size (k + 1) xs) (a.put o.dst undef) V) : wpG P md ops Q' (fuel + 1) (upX ops.size k xs) a V := by
  have hk := okRX_spec hr1
  refine ⟨fun e => (by rw [e] at hk; cases hk), fun i hi => ?_⟩
  rw [okOneX_spec hone i hi, upX_succ]
  unfold gOp
  simp only [h0, hw, Bool.false_eq_true, if_false]
  exact h
/-- One quiet operation where others behind it have come up already. -/
theorem wpG_oneX {k : Nat} {xs : List Nat} {o : Oper} {fuel : Nat} {a : Act} {V : World} (h0 : ops[k]? = some o) (hs : Region.noSelect ops = true) (hr : okRX md ops k xs k = true) (hf : okFX md ops k xs k = true) (hp : plainB o = true)
    (h : wpQuiet P ops (fun w' => ∃ s : HW V, w' = s.w) (fun a' => wpG P md ops Q' fuel (upX ops.size (k + 1) xs) a' V) [o] a) : wpG P md ops Q' (fuel + 1) (upX ops.size k xs) a V := by
  obtain ⟨v, hy, hK⟩ := calm_of_quiet h0 hp h
  rw [← upX_succ] at hK
  exact wpG_first h0 (Region.noSelect_spec hs) fuel _ a V (okFX_spec h0 hf) (okRX_spec hr) hy hK
end
end Go.Proofs.YthiabbgkfmopiaaGreat

