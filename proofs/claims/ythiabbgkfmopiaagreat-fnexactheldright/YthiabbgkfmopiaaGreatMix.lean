/- A region that draws its order: quiet operations, calls whose answers lie in new memory, operations that make memory ('buildSlice'), and at its end a chain of operations that wait for all that is ahead (an append, a store): walked once, in the order of the text. Beside our text Odd, which has no such chain. No program in it. -/
import Derived.Test.YthiabbgkfmopiaaGreatOdd
namespace Go.Proofs.YthiabbgkfmopiaaGreat
open Go Go.RowKit

section
variable {P : Program} {ops : Array Oper} {md : Region.Mode} {Q' : Exit → Act → World → Prop} {last m : Nat}

/-- What has come up is closed: all that it waited for has come up. -/
def Closed (md : Region.Mode) (ops : Array Oper) (listed : Array Bool) : Prop :=
  ∀ j o, ops[j]? = some o → listed.getD j false = true → ∀ e ∈ o.after, Region.binds md e = true → listed.getD e.on false = true
/-- Every operation ahead of 'last' is waited for by a later one, up to 'last'. -/
def waitsT (md : Region.Mode) (ops : Array Oper) (last : Nat) : Bool :=
  (List.range last).all fun i => (List.range (last + 1)).any fun j => decide (i < j) && (match ops[j]? with
    | some o => o.after.toList.any (fun e => Region.binds md e && e.on == i)
    | none => false)

theorem waitsT_spec (h : waitsT md ops last = true) {listed : Array Bool} (hc : Closed md ops listed) (hr : last ∈ Region.ready md ops listed) : ∀ d i, last - i ≤ d → i < last → listed.getD i false = true := by
  intro d
  induction d with
  | zero => intro i h1 h2; omega
  | succ d ih =>
    intro i hd hi
    unfold waitsT at h
    obtain ⟨j, hj, hjb⟩ := List.any_eq_true.1 ((List.all_eq_true.1 h) i (List.mem_range.2 hi))
    simp only [Bool.and_eq_true, decide_eq_true_eq] at hjb
    obtain ⟨hij, hjo⟩ := hjb
    have hjl : j < last + 1 := List.mem_range.1 hj
    split at hjo
    · rename_i o ho
      obtain ⟨e, he, hb⟩ := List.any_eq_true.1 hjo
      simp only [Bool.and_eq_true, beq_iff_eq] at hb
      have he' : e ∈ o.after := by simpa using he
      by_cases hl : j = last
      · subst hl
        obtain ⟨-, o', ho', hall⟩ := mem_ready.1 hr
        rw [ho] at ho'
        obtain rfl := Option.some.inj ho'
        have := hall e he' hb.1
        rw [hb.2] at this
        exact this
      · have hlj := ih j (by omega) (by omega)
        have := hc j o ho hlj e he' hb.1
        rw [hb.2] at this
        exact this
    · cases hjo

theorem Closed.step {listed : Array Bool} {j : Nat} (hc : Closed md ops listed) (hj : j ∈ Region.ready md ops listed) : Closed md ops (listed.setIfInBounds j true) := by
  intro k o ho hk e he hb
  have keep : ∀ n, listed.getD n false = true → (listed.setIfInBounds j true).getD n false = true := fun n hn => by
    by_cases hjn : j = n
    · subst hjn
      rcases Nat.lt_or_ge j listed.size with h' | h'
      · simp [h']
      · simp [Array.getElem?_eq_none h'] at hn
    · rw [getD_set_ne false hjn]; exact hn
  by_cases hjk : j = k
  · subst hjk
    obtain ⟨-, o', ho', hall⟩ := mem_ready.1 hj
    rw [ho] at ho'
    obtain rfl := Option.some.inj ho'
    exact keep _ (hall e he hb)
  · rw [getD_set_ne false hjk] at hk
    exact keep _ (hc k o ho hk e he hb)
theorem Closed.upTo {k : Nat} (h : (List.range k).all (fun i => okR md ops i) = true) : Closed md ops (upTo ops.size k) := by
  intro j o ho hj e he hb
  have hjs : j < ops.size := (Array.getElem?_eq_some_iff.1 ho).1
  rw [upTo_at, if_pos hjs] at hj
  simp only [decide_eq_true_eq] at hj
  have h1 := (List.all_eq_true.1 h) j (List.mem_range.2 hj)
  unfold okR at h1
  simp only [ho] at h1
  have h2 := (List.all_eq_true.1 h1) e (by simpa using he)
  simp only [hb, Bool.not_true, Bool.false_or, decide_eq_true_eq] at h2
  rw [upTo_at, if_pos (by omega)]
  simp; omega

/-- Operation number i comes up in state a, in the class of V: it gives one value; or it calls; or it makes memory. -/
def mOp (P : Program) (ops : Array Oper) (i : Nat) (K : Act → World → Prop) (a : Act) (V : World) : Prop :=
  match ops[i]? with
  | none => K a V
  | some o => if Region.wanted o (yielded ops a.tmps) then
      (∃ v, (∀ w, (∃ s : HW V, w = s.w) → (execOp a.eval o).run P w = .ok (.value v) w) ∧ K (a.put o.dst v) V) ∨
      (∀ w, (∃ s : HW V, w = s.w) → (∃ f args, (execOp a.eval o).run P w = .ok (.enter f args) w ∧ Calls P f args w (fun e w' => ∃ v, e = .returned v ∧ (∃ s : HW w, w' = s.w) ∧ K (a.put o.dst v) w')) ∨
        (∃ v w', (execOp a.eval o).run P w = .ok (.value v) w' ∧ (∃ s : HW w, w' = s.w) ∧ K (a.put o.dst v) w'))
    else K (a.put o.dst undef) V

def wpM (P : Program) (md : Region.Mode) (ops : Array Oper) (Q' : Exit → Act → World → Prop) (last m : Nat) : Nat → Array Bool → Act → World → Prop
  | 0, listed, a, V => (∀ i ∈ Region.ready md ops listed, i = last) ∧ ∀ w, (∃ s : HW V, w = s.w) → wpAny P md ops Q' m listed a w
  | fuel + 1, listed, a, V => Region.ready md ops listed ≠ [] ∧ ∀ i ∈ Region.ready md ops listed, mOp P ops i (wpM P md ops Q' last m fuel (listed.setIfInBounds i true)) a V

theorem mOp_wp {i : Nat} {K : Act → World → Prop} {K' : Act → World → Prop} {a : Act} {V w : World} (hw : ∃ s : HW V, w = s.w) (h : ∀ a' V' w', (∃ s : HW V', w' = s.w) → K a' V' → K' a' w') (hh : mOp P ops i K a V) : wpOp P ops Q' i K' a w := by
  unfold mOp at hh
  unfold wpOp
  split
  · rename_i ho; simp only [ho] at hh; exact h _ _ _ hw hh
  · rename_i o ho
    simp only [ho] at hh
    split
    · rename_i hwt
      simp only [hwt, if_true] at hh
      refine .inl ?_
      unfold Oper.wp
      rcases hh with ⟨v, h1, h2⟩ | h1
      · rw [h1 w hw]
        simp only [Oper.upon]
        exact h _ _ _ hw h2
      · rcases h1 w hw with ⟨f, args, hr, hc⟩ | ⟨v, w', hr, hs, hk⟩
        · rw [hr]
          simp only [Oper.upon]
          exact hc.mono fun e w'' ⟨v, he, hs, hk⟩ => by subst he; exact h _ _ _ (hw_refl w'') hk
        · rw [hr]
          simp only [Oper.upon]
          exact h _ _ _ (hw_refl w') hk
    · rename_i hwt
      simp only [hwt] at hh
      exact h _ _ _ hw hh

theorem wpAny_of_M : ∀ (fuel : Nat) (listed : Array Bool) (a : Act) (V w : World), (∃ s : HW V, w = s.w) → wpM P md ops Q' last m fuel listed a V → wpAny P md ops Q' (fuel + m) listed a w
  | 0, _, _, _, _, hw, h => by rw [Nat.zero_add]; exact h.2 _ hw
  | fuel + 1, _, _, _, _, hw, h => by
    rw [show fuel + 1 + m = (fuel + m) + 1 by omega]
    exact ⟨fun h0 => absurd h0 h.1, fun i hi => mOp_wp hw (fun a' V' w' hw' hk => wpAny_of_M fuel _ a' V' w' hw' hk) (h.2 i hi)⟩

theorem Calm.mOp {i : Nat} {o : Oper} {v : Value} {a : Act} {V : World} (hi : ops[i]? = some o) (h : Calm P ops o v a V) {K : Act → World → Prop} (hk : K (a.put o.dst v) V) : mOp P ops i K a V := by
  unfold Go.Proofs.YthiabbgkfmopiaaGreat.mOp
  simp only [hi]
  rcases h with ⟨hw, hv⟩ | ⟨hw, rfl⟩
  · simp only [hw, if_true]
    exact .inl ⟨v, hv, hk⟩
  · simp only [hw, Bool.false_eq_true, if_false]; exact hk

theorem mOp_put {j : Nat} {oi oj : Oper} {v : Value} (hj : ops[j]? = some oj) (hap : oi.apart ops oj = true)
    (hsi : ∀ cs b, oi.op ≠ .select cs b) (hsj : ∀ cs b, oj.op ≠ .select cs b) {K : Act → World → Prop} {a : Act} {V : World}
    (hy : Calm P ops oi v a V) (h : mOp P ops j K (a.put oi.dst v) V) :
    mOp P ops j (fun a' V' => Calm P ops oi v a' V' ∧ K (a'.put oi.dst v) V') a V := by
  obtain ⟨h1, h2, h3⟩ := Oper.apart_spec hap
  have keep : ∀ u, Calm P ops oi v (a.put oj.dst u) V := fun u =>
    hy.same (execOp_put oi hsi a oj.dst u h3) (wanted_put oi a oj.dst u h3)
  unfold mOp at *
  simp only [hj] at *
  rw [wanted_put oj a oi.dst v h1] at h
  split
  · rename_i hw
    simp only [hw, if_true] at h
    rcases h with ⟨u, hu, hn⟩ | ho
    · refine .inl ⟨u, fun w hw' => ?_, keep u, by rw [← Act.put_comm a v u h2]; exact hn⟩
      have := hu w hw'
      rwa [execOp_put oj hsj a oi.dst v h1] at this
    · refine .inr (fun w hw' => ?_)
      rcases ho w hw' with ⟨f, args, hr, hc⟩ | ⟨u, w', hr, hs, hk⟩
      · rw [execOp_put oj hsj a oi.dst v h1] at hr
        exact .inl ⟨f, args, hr, hc.mono fun e w'' ⟨u, he, hs, hk⟩ => ⟨u, he, hs, (keep u).down (hw_trans hw' hs), by rw [← Act.put_comm a v u h2]; exact hk⟩⟩
      · rw [execOp_put oj hsj a oi.dst v h1] at hr
        exact .inr ⟨u, w', hr, hs, (keep u).down (hw_trans hw' hs), by rw [← Act.put_comm a v u h2]; exact hk⟩
  · rename_i hw
    simp only [hw] at h
    exact ⟨keep _, by rw [← Act.put_comm a v undef h2]; exact h⟩

theorem mOp_mono {i : Nat} {a : Act} {V : World} {K K' : Act → World → Prop} (h : ∀ a V, K a V → K' a V) (hh : mOp P ops i K a V) : mOp P ops i K' a V := by
  unfold mOp at *
  split
  · exact h _ _ (by simpa [*] using hh)
  · rename_i o ho
    simp only [ho] at hh
    split
    · rename_i hw
      simp only [hw, if_true] at hh
      rcases hh with ⟨u, hu, hn⟩ | ho
      · exact .inl ⟨u, hu, h _ _ hn⟩
      · exact .inr fun w hw' => by
          rcases ho w hw' with ⟨f, args, hr, hc⟩ | ⟨u, w', hr, hs, hk⟩
          · exact .inl ⟨f, args, hr, hc.mono fun e w'' ⟨u, he, hs, hk⟩ => ⟨u, he, hs, h _ _ hk⟩⟩
          · exact .inr ⟨u, w', hr, hs, h _ _ hk⟩
    · rename_i hw; simp only [hw] at hh; exact h _ _ hh

theorem wpM_first (hlast : waitsT md ops last = true) {i : Nat} {oi : Oper} {v : Value} (hi : ops[i]? = some oi) (hil : i < last) (hsel : ∀ (j : Nat) (o : Oper) cs b, ops[j]? = some o → o.op ≠ .select cs b) :
    ∀ (fuel : Nat) (listed : Array Bool) (a : Act) (V : World), Closed md ops listed →
      (∀ j oj, ops[j]? = some oj → j ≠ i → listed.getD j true = false → (∀ e ∈ oj.after, Region.binds md e = true → e.on ≠ i) → oi.apart ops oj = true) →
      i ∈ Region.ready md ops listed → Calm P ops oi v a V →
      wpM P md ops Q' last m fuel (listed.setIfInBounds i true) (a.put oi.dst v) V → wpM P md ops Q' last m (fuel + 1) listed a V := by
  intro fuel
  induction fuel with
  | zero =>
    intro listed a V hcl _ hr hy H
    refine ⟨fun h => (by rw [h] at hr; cases hr), fun j hj => ?_⟩
    by_cases hji : j = i
    · subst hji; exact hy.mOp hi H
    · have h1 := ready_mono hj hji
      have h2 := H.1 j h1
      subst h2
      have h3 := waitsT_spec hlast hcl hj (j - i) i (Nat.le_refl _) hil
      have h4 := (mem_ready.1 hr).1
      rcases Nat.lt_or_ge i listed.size with h' | h'
      · simp [h'] at h3 h4; rw [h3] at h4; cases h4
      · simp [Array.getElem?_eq_none h'] at h3
  | succ fuel ih =>
    intro listed a V hcl hfree hr hy H
    refine ⟨fun h => (by rw [h] at hr; cases hr), fun j hj => ?_⟩
    by_cases hji : j = i
    · subst hji; exact hy.mOp hi H
    · have h1 := H.2 j (ready_mono hj hji)
      obtain ⟨hjun, oj, hoj, hall⟩ := mem_ready.1 hj
      have hnot : ∀ e ∈ oj.after, Region.binds md e = true → e.on ≠ i := fun e he hb heq => by
        have h1 := hall e he hb
        have h0 := (mem_ready.1 hr).1
        rw [heq] at h1
        rcases Nat.lt_or_ge i listed.size with h' | h'
        · simp [h'] at h0 h1; rw [h0] at h1; cases h1
        · simp [Array.getElem?_eq_none h'] at h1
      have h2 := mOp_put hoj (hfree j oj hoj hji hjun hnot) (fun cs b => hsel i oi cs b hi) (fun cs b => hsel j oj cs b hoj) hy h1
      have hfree' : ∀ k ok, ops[k]? = some ok → k ≠ i → (listed.setIfInBounds j true).getD k true = false →
          (∀ e ∈ ok.after, Region.binds md e = true → e.on ≠ i) → oi.apart ops ok = true := fun k ok hk hki hun hno => by
        refine hfree k ok hk hki ?_ hno
        by_cases hjk : j = k
        · subst hjk; exact hjun
        · rw [getD_set_ne true hjk] at hun; exact hun
      refine mOp_mono (fun a' V' h3 => ih (listed.setIfInBounds j true) a' V' (hcl.step hj) hfree' (ready_mono hr (Ne.symm hji)) h3.1 ?_) h2
      rw [Array.setIfInBounds_comm _ _ hji]
      exact h3.2

/-- A run of quiet operations that call nothing. -/
theorem wpM_seg (hlast : waitsT md ops last = true) (hs : Region.noSelect ops = true) {V : World} (fuel : Nat) : ∀ (l : List Oper) (k : Nat) (a : Act), (∀ j, j < l.length → l[j]? = ops[k + j]?) → l.all plainB = true → k + l.length ≤ last →
    (List.range k).all (fun i => okR md ops i) = true → (List.range' k l.length).all (fun i => okR md ops i && okF md ops i) = true →
    wpQuiet P ops (fun w' => ∃ s : HW V, w' = s.w) (fun a' => wpM P md ops Q' last m fuel (upTo ops.size (k + l.length)) a' V) l a → wpM P md ops Q' last m (l.length + fuel) (upTo ops.size k) a V
  | [], k, a, _, _, _, _, _, h => by simpa [wpQuiet] using h
  | o :: l, k, a, hl, hp, hkl, hR, hB, h => by
    have h0 : ops[k]? = some o := by simpa using (hl 0 (by simp)).symm
    simp only [List.all_cons, Bool.and_eq_true] at hp
    simp only [List.length_cons, List.range'_succ, List.all_cons, Bool.and_eq_true] at hB
    obtain ⟨⟨hr, hf⟩, hB'⟩ := hB
    have hst : qOp P ops (fun w' => ∃ s : HW V, w' = s.w) k (wpQuiet P ops (fun w' => ∃ s : HW V, w' = s.w) (fun a' => wpM P md ops Q' last m fuel (upTo ops.size (k + (l.length + 1))) a' V) l) a := by unfold qOp; simp only [h0]; exact h
    obtain ⟨v, hy, hK⟩ := yieldsIn_of_qOp h0 hst
    rw [show k + (l.length + 1) = k + 1 + l.length by omega] at hK
    have hR' : (List.range (k + 1)).all (fun i => okR md ops i) = true := by rw [List.range_succ, List.all_append, hR]; simp [hr]
    simp only [List.length_cons] at hkl
    have hrest := wpM_seg hlast hs fuel l (k + 1) (a.put o.dst v) (fun j hj => by have := hl (j + 1) (by simpa using hj); simpa [Nat.add_assoc, Nat.add_comm 1 j] using this) hp.2 (by omega) hR' hB' hK
    rw [← upTo_succ] at hrest
    rw [show (o :: l).length + fuel = (l.length + fuel) + 1 by simp; omega]
    refine wpM_first hlast h0 (by omega) (Region.noSelect_spec hs) (l.length + fuel) _ a V (Closed.upTo hR) (okF_spec h0 hf) (okR_spec hr) ?_ hrest
    rcases hy with ⟨hw, hv⟩ | ⟨hw, rfl⟩
    · refine .inl ⟨hw, fun w hw' => ?_⟩
      have h3 := hv w hw'
      unfold Oper.quietAt at h3
      cases hrn : (execOp a.eval o).run P w with
      | ok n w1 =>
        obtain ⟨u, rfl⟩ := plainB_value hp.1 a.eval w n w1 hrn
        rw [hrn] at h3
        obtain ⟨e1, e2⟩ := h3
        rw [e1, e2]
      | halt x w1 => rw [hrn] at h3; exact h3.elim
    · exact .inr ⟨hw, rfl⟩

/-- A call, or an operation that makes memory: it alone can come up. -/
theorem wpM_call {k : Nat} {o : Oper} {fuel : Nat} {a : Act} {V : World} (h0 : ops[k]? = some o) (hr1 : okR md ops k = true) (hone : okOne md ops k = true) (hw : Region.wanted o (yielded ops a.tmps) = true)
    (f : FuncId) (args args' : Array Value) (hr : ∀ w, (execOp a.eval o).run P w = .ok (.enter f args) w) (he : args = args')
    (h : ∀ w, (∃ s : HW V, w = s.w) → Calls P f args' w (fun e w' => ∃ v, e = .returned v ∧ (∃ s : HW w, w' = s.w) ∧ wpM P md ops Q' last m fuel (upTo ops.size (k + 1)) (a.put o.dst v) w')) : wpM P md ops Q' last m (fuel + 1) (upTo ops.size k) a V := by
  subst he
  have hk := okR_spec hr1
  refine ⟨fun e => (by rw [e] at hk; cases hk), fun i hi => ?_⟩
  rw [okOne_spec hone i hi, upTo_succ]
  unfold mOp
  simp only [h0, hw, if_true]
  exact .inr fun w hw' => .inl ⟨f, args, hr w, h w hw'⟩
theorem wpM_make {k : Nat} {o : Oper} {fuel : Nat} {a : Act} {V : World} (h0 : ops[k]? = some o) (hr1 : okR md ops k = true) (hone : okOne md ops k = true) (hw : Region.wanted o (yielded ops a.tmps) = true)
    (h : ∀ w, (∃ s : HW V, w = s.w) → ∃ v w', (execOp a.eval o).run P w = .ok (.value v) w' ∧ (∃ s : HW w, w' = s.w) ∧ wpM P md ops Q' last m fuel (upTo ops.size (k + 1)) (a.put o.dst v) w') : wpM P md ops Q' last m (fuel + 1) (upTo ops.size k) a V := by
  have hk := okR_spec hr1
  refine ⟨fun e => (by rw [e] at hk; cases hk), fun i hi => ?_⟩
  rw [okOne_spec hone i hi, upTo_succ]
  unfold mOp
  simp only [h0, hw, if_true]
  exact .inr fun w hw' => .inr (h w hw')
theorem okOne_ready {k : Nat} (hr1 : okR md ops k = true) (hone : okOne md ops k = true) : ∀ i, i ∈ Region.ready md ops (upTo ops.size k) ↔ i = k :=
  fun i => ⟨okOne_spec hone i, fun h => by rw [h]; exact okR_spec hr1⟩

/-- The chain at the end: each can come up alone. -/
theorem wpAny_chain : ∀ (l : List Oper) (k : Nat) (a : Act) (w : World), (∀ j, j < l.length → l[j]? = ops[k + j]?) → k + l.length = ops.size → (List.range' k l.length).all (fun i => okR md ops i && okOne md ops i) = true →
    wpList P ops Q' l a w → wpAny P md ops Q' l.length (upTo ops.size k) a w
  | [], k, a, w, _, hk, _, h => by
    simp only [List.length_nil, Nat.add_zero] at hk
    subst hk
    exact ⟨ready_end, h⟩
  | o :: l, k, a, w, hl, hk, hB, h => by
    have h0 : ops[k]? = some o := by simpa using (hl 0 (by simp)).symm
    simp only [List.length_cons, List.range'_succ, List.all_cons, Bool.and_eq_true] at hB
    obtain ⟨⟨hr, hone⟩, hB'⟩ := hB
    have hin := okR_spec hr
    simp only [List.length_cons] at hk
    refine ⟨fun e => (by rw [e] at hin; cases hin), fun i hi => ?_⟩
    rw [okOne_spec hone i hi, upTo_succ]
    have hrec := fun a' w' => wpAny_chain l (k + 1) a' w' (fun j hj => by have := hl (j + 1) (by simpa using hj); simpa [Nat.add_assoc, Nat.add_comm 1 j] using this) (by omega) hB'
    unfold wpOp
    simp only [h0]
    unfold wpList at h
    split
    · rename_i hw
      rw [if_pos hw] at h
      rcases h with h | h
      · exact .inl (Oper.wp_mono (fun a' w' hh => hrec a' w' hh) h)
      · exact .inr h
    · rename_i hw
      rw [if_neg hw] at h
      exact hrec _ _ h

/-- The region's end: from operation 'last' on, in the order of the text. -/
theorem wpM_tail {a : Act} {V : World} (hm : last + m = ops.size) (hB : (List.range' last m).all (fun i => okR md ops i && okOne md ops i) = true) (hp : 0 < m) (h : ∀ w, (∃ s : HW V, w = s.w) → wpList P ops Q' (ops.toList.drop last) a w) : wpM P md ops Q' last m 0 (upTo ops.size last) a V := by
  have hlen : (ops.toList.drop last).length = m := by simp; omega
  have h0 : okR md ops last = true ∧ okOne md ops last = true := by
    have := (List.all_eq_true.1 hB) last (by simp [List.mem_range']; omega)
    simpa using this
  refine ⟨okOne_spec h0.2, fun w hw => ?_⟩
  have := wpAny_chain (md := md) (ops.toList.drop last) last a w (fun j hj => by rw [List.getElem?_drop]; simp) (by rw [hlen]; exact hm) (by rw [hlen]; exact hB) (h w hw)
  rw [hlen] at this
  exact this

/-- The region: n quiet operations, then k more ahead of the chain of m. -/
theorem wp_region_mix {id : Nat} {a : Act} {w : World} (n k m : Nat) (hn : ops.size = n + k + m) (hm : P.follows .mixedOrders = true) (hs : Region.noSelect ops = true) (hlast : waitsT .any ops (n + k) = true) (hB : (List.range' 0 n).all (fun i => okR .any ops i && okF .any ops i) = true) (hp : (ops.toList.take n).all plainB = true)
    (h : wpQuiet P ops (fun w' => ∃ s : HW w, w' = s.w) (fun a' => wpM P .any ops Q' (n + k) m k (upTo ops.size n) a' w) (ops.toList.take n) a) : (Code.region id ops true).wp P Q' a w := by
  have hlen : (ops.toList.take n).length = n := by simp; omega
  have h1 := wpM_seg (Q' := Q') (last := n + k) (m := m) hlast hs k (ops.toList.take n) 0 a (fun j hj => by rw [List.getElem?_take_of_lt (by omega)]; simp) hp (by rw [hlen]; omega) (by simp) (by rw [hlen]; exact hB) (by rw [hlen, Nat.zero_add]; exact h)
  rw [hlen] at h1
  refine wp_region_any hm ?_
  rw [upTo_zero]
  have h2 := wpAny_of_M (n + k) _ a w { w with drawn := w.drawn + 1 } ⟨⟨w.drew, (Below.refl _ _).drew⟩, rfl⟩ h1
  rw [← hn] at h2
  exact h2
/-- From operation k on: n quiet operations. -/
theorem wpM_next {a : Act} {V : World} (k n f : Nat) (hn : k + n ≤ last) (hl : last ≤ ops.size) (hlast : waitsT md ops last = true) (hs : Region.noSelect ops = true) (hR : (List.range k).all (fun i => okR md ops i) = true) (hB : (List.range' k n).all (fun i => okR md ops i && okF md ops i) = true) (hp : ((ops.toList.drop k).take n).all plainB = true)
    (h : wpQuiet P ops (fun w' => ∃ s : HW V, w' = s.w) (fun a' => wpM P md ops Q' last m f (upTo ops.size (k + n)) a' V) ((ops.toList.drop k).take n) a) : wpM P md ops Q' last m (n + f) (upTo ops.size k) a V := by
  have hlen : ((ops.toList.drop k).take n).length = n := by simp; omega
  have := wpM_seg (Q' := Q') (m := m) hlast hs f ((ops.toList.drop k).take n) k a (fun j hj => by rw [List.getElem?_take_of_lt (by omega), List.getElem?_drop]; simp) hp (by rw [hlen]; exact hn) hR (by rw [hlen]; exact hB) (by rw [hlen]; exact h)
  rw [hlen] at this
  exact this
end
end Go.Proofs.YthiabbgkfmopiaaGreat

