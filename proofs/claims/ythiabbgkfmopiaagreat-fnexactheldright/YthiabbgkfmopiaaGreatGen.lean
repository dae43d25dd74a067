/- As our text Mix, for whatever class of worlds: 'R V w' says what is left of V in w behind the region's calls (a relation that goes on, and does not mind a draw); a call itself is asked only where nothing but draws has happened since the last one: for regions that draw their order and hold a call that writes what is known (a draw from a source). No program in it. -/
import Derived.Test.YthiabbgkfmopiaaGreatMix
import Derived.Test.YthiabbgkfmopiaaGreatJoint4
namespace Go.Proofs.YthiabbgkfmopiaaGreat.Gen
open Go Go.RowKit Go.Proofs.YthiabbgkfmopiaaGreat

structure Pre (R : World → World → Prop) : Prop where
  trans : ∀ a b c, R a b → R b c → R a c
  drewN : ∀ V n, R V (V.drewN n)
/-- A world of the class of V. -/
structure CW (R : World → World → Prop) (V : World) where
  w : World
  h : R V w
theorem CW.at {R : World → World → Prop} {V : World} {p : Addr} {v : Value} (h : ∀ w, R V w → w.cell? p = some v) : ∀ s : CW R V, s.w.cell? p = some v := fun s => h s.w s.h
/-- All but one row is left. -/
def But (b : Nat) (V w : World) : Prop := V.grownBy w (some b)
theorem But.pre (b : Nat) : Pre (But b) := ⟨fun _ _ _ h k => grownBy_trans h k, fun V n => grownBy_drewN V n _⟩
theorem But.cell {b : Nat} {V : World} {p : Addr} {v : Value} (h : V.cell? p = some v) (hne : p.block ≠ b) : ∀ s : CW (But b) V, s.w.cell? p = some v := fun s => by
  have hl := World.block_lt_of_cell? V _ h
  rw [World.cell?_of_block (w := V) (a := p) (s.h.block p.block hl (fun e => hne (Option.some.inj e)))]
  exact h
theorem But.some (b : Nat) (V : World) : Nonempty (CW (But b) V) := ⟨⟨V, World.grownBy.refl _ _⟩⟩

section
variable {P : Program} {ops : Array Oper} {md : Region.Mode} {Q' : Exit → Act → World → Prop} {last m : Nat} {R : World → World → Prop}

theorem cw_drew (hPr : Pre R) {V w : World} (h : ∃ n, w = V.drewN n) : ∃ s : CW R V, w = s.w := by
  obtain ⟨n, rfl⟩ := h
  exact ⟨⟨_, hPr.drewN V n⟩, rfl⟩
theorem drew_refl (V : World) : ∃ n, V = V.drewN n := ⟨0, rfl⟩
theorem cw_trans (hPr : Pre R) {V w x : World} (h : ∃ s : CW R V, w = s.w) (k : ∃ s : CW R w, x = s.w) : ∃ s : CW R V, x = s.w := by
  obtain ⟨s, rfl⟩ := h
  obtain ⟨t, rfl⟩ := k
  exact ⟨⟨t.w, hPr.trans _ _ _ s.h t.h⟩, rfl⟩
def Calm (R : World → World → Prop) (P : Program) (ops : Array Oper) (o : Oper) (v : Value) (a : Act) (V : World) : Prop :=
  (Region.wanted o (yielded ops a.tmps) = true ∧ ∀ w, (∃ s : CW R V, w = s.w) → (execOp a.eval o).run P w = .ok (.value v) w) ∨
  (Region.wanted o (yielded ops a.tmps) = false ∧ v = undef)
theorem Calm.down {o : Oper} {v : Value} {a : Act} {V w : World} (h : Calm R P ops o v a V) (hPr : Pre R) (hw : ∃ s : CW R V, w = s.w) : Calm R P ops o v a w := by
  rcases h with ⟨h1, h2⟩ | h
  · exact .inl ⟨h1, fun x hx => h2 x (cw_trans hPr hw hx)⟩
  · exact .inr h
theorem Calm.same {o : Oper} {v : Value} {a a' : Act} {V : World} (h : Calm R P ops o v a V) (he : execOp a'.eval o = execOp a.eval o) (hw : Region.wanted o (yielded ops a'.tmps) = Region.wanted o (yielded ops a.tmps)) : Calm R P ops o v a' V := by
  unfold Calm at *
  rw [he, hw]
  exact h

/-- Operation number i comes up in state a, in the class of V: it gives one value; or it calls; or it makes memory. -/
def mOp (R : World → World → Prop) (P : Program) (ops : Array Oper) (i : Nat) (K : Act → World → Prop) (a : Act) (V : World) : Prop :=
  match ops[i]? with
  | none => K a V
  | some o => if Region.wanted o (yielded ops a.tmps) then
      (∃ v, (∀ w, (∃ s : CW R V, w = s.w) → (execOp a.eval o).run P w = .ok (.value v) w) ∧ K (a.put o.dst v) V) ∨
      (∀ w, (∃ n, w = V.drewN n) → (∃ f args, (execOp a.eval o).run P w = .ok (.enter f args) w ∧ Calls P f args w (fun e w' => ∃ v, e = .returned v ∧ (∃ s : CW R w, w' = s.w) ∧ K (a.put o.dst v) w')) ∨
        (∃ v w', (execOp a.eval o).run P w = .ok (.value v) w' ∧ (∃ s : CW R w, w' = s.w) ∧ K (a.put o.dst v) w'))
    else K (a.put o.dst undef) V

def wpM (R : World → World → Prop) (P : Program) (md : Region.Mode) (ops : Array Oper) (Q' : Exit → Act → World → Prop) (last m : Nat) : Nat → Array Bool → Act → World → Prop
  | 0, listed, a, V => (∀ i ∈ Region.ready md ops listed, i = last) ∧ ∀ w, (∃ n, w = V.drewN n) → wpAny P md ops Q' m listed a w
  | fuel + 1, listed, a, V => Region.ready md ops listed ≠ [] ∧ ∀ i ∈ Region.ready md ops listed, mOp R P ops i (wpM R P md ops Q' last m fuel (listed.setIfInBounds i true)) a V

theorem mOp_wp (hPr : Pre R) {i : Nat} {K : Act → World → Prop} {K' : Act → World → Prop} {a : Act} {V w : World} (hw : ∃ n, w = V.drewN n) (h : ∀ a' V' w', (∃ n, w' = V'.drewN n) → K a' V' → K' a' w') (hh : mOp R P ops i K a V) : wpOp P ops Q' i K' a w := by
  unfold mOp at hh
  unfold wpOp
  split
  · rename_i ho; simp only [ho] at hh; exact h _ _ _ hw hh
  · rename_i o ho
    simp only [ho] at hh
    split
    · rename_i hwt
      simp only [hwt, if_true] at hh
      refine .inl ?_
      unfold Oper.wp
      rcases hh with ⟨v, h1, h2⟩ | h1
      · rw [h1 w (cw_drew hPr hw)]
        simp only [Oper.upon]
        exact h _ _ _ hw h2
      · rcases h1 w hw with ⟨f, args, hr, hc⟩ | ⟨v, w', hr, hs, hk⟩
        · rw [hr]
          simp only [Oper.upon]
          exact hc.mono fun e w'' ⟨v, he, hs, hk⟩ => by subst he; exact h _ _ _ (drew_refl w'') hk
        · rw [hr]
          simp only [Oper.upon]
          exact h _ _ _ (drew_refl w') hk
    · rename_i hwt
      simp only [hwt] at hh
      exact h _ _ _ hw hh

theorem wpAny_of_M (hPr : Pre R) : ∀ (fuel : Nat) (listed : Array Bool) (a : Act) (V w : World), (∃ n, w = V.drewN n) → wpM R P md ops Q' last m fuel listed a V → wpAny P md ops Q' (fuel + m) listed a w
  | 0, _, _, _, _, hw, h => by rw [Nat.zero_add]; exact h.2 _ hw
  | fuel + 1, _, _, _, _, hw, h => by
    rw [show fuel + 1 + m = (fuel + m) + 1 by omega]
    exact ⟨fun h0 => absurd h0 h.1, fun i hi => mOp_wp hPr hw (fun a' V' w' hw' hk => wpAny_of_M hPr fuel _ a' V' w' hw' hk) (h.2 i hi)⟩

theorem Calm.mOp {i : Nat} {o : Oper} {v : Value} {a : Act} {V : World} (hi : ops[i]? = some o) (h : Calm R P ops o v a V) {K : Act → World → Prop} (hk : K (a.put o.dst v) V) : mOp R P ops i K a V := by
  unfold Go.Proofs.YthiabbgkfmopiaaGreat.Gen.mOp
  simp only [hi]
  rcases h with ⟨hw, hv⟩ | ⟨hw, rfl⟩
  · simp only [hw, if_true]
    exact .inl ⟨v, hv, hk⟩
  · simp only [hw, Bool.false_eq_true, if_false]; exact hk

theorem mOp_put (hPr : Pre R) {j : Nat} {oi oj : Oper} {v : Value} (hj : ops[j]? = some oj) (hap : oi.apart ops oj = true)
    (hsi : ∀ cs b, oi.op ≠ .select cs b) (hsj : ∀ cs b, oj.op ≠ .select cs b) {K : Act → World → Prop} {a : Act} {V : World}
    (hy : Calm R P ops oi v a V) (h : mOp R P ops j K (a.put oi.dst v) V) :
    mOp R P ops j (fun a' V' => Calm R P ops oi v a' V' ∧ K (a'.put oi.dst v) V') a V := by
  obtain ⟨h1, h2, h3⟩ := Oper.apart_spec hap
  have keep : ∀ u, Calm R P ops oi v (a.put oj.dst u) V := fun u =>
    hy.same (execOp_put oi hsi a oj.dst u h3) (wanted_put oi a oj.dst u h3)
  unfold mOp at *
  simp only [hj] at *
  rw [wanted_put oj a oi.dst v h1] at h
  split
  · rename_i hw
    simp only [hw, if_true] at h
    rcases h with ⟨u, hu, hn⟩ | ho
    · refine .inl ⟨u, fun w hw' => ?_, keep u, by rw [← Act.put_comm a v u h2]; exact hn⟩
      have := hu w hw'
      rwa [execOp_put oj hsj a oi.dst v h1] at this
    · refine .inr (fun w hw' => ?_)
      rcases ho w hw' with ⟨f, args, hr, hc⟩ | ⟨u, w', hr, hs, hk⟩
      · rw [execOp_put oj hsj a oi.dst v h1] at hr
        exact .inl ⟨f, args, hr, hc.mono fun e w'' ⟨u, he, hs, hk⟩ => ⟨u, he, hs, (keep u).down hPr (cw_trans hPr (cw_drew hPr hw') hs), by rw [← Act.put_comm a v u h2]; exact hk⟩⟩
      · rw [execOp_put oj hsj a oi.dst v h1] at hr
        exact .inr ⟨u, w', hr, hs, (keep u).down hPr (cw_trans hPr (cw_drew hPr hw') hs), by rw [← Act.put_comm a v u h2]; exact hk⟩
  · rename_i hw
    simp only [hw] at h
    exact ⟨keep _, by rw [← Act.put_comm a v undef h2]; exact h⟩

theorem mOp_mono {i : Nat} {a : Act} {V : World} {K K' : Act → World → Prop} (h : ∀ a V, K a V → K' a V) (hh : mOp R P ops i K a V) : mOp R P ops i K' a V := by
  unfold mOp at *
  split
  · exact h _ _ (by simpa [*] using hh)
  · rename_i o ho
    simp only [ho] at hh
    split
    · rename_i hw
      simp only [hw, if_true] at hh
      rcases hh with ⟨u, hu, hn⟩ | ho
      · exact .inl ⟨u, hu, h _ _ hn⟩
      · exact .inr fun w hw' => by
          rcases ho w hw' with ⟨f, args, hr, hc⟩ | ⟨u, w', hr, hs, hk⟩
          · exact .inl ⟨f, args, hr, hc.mono fun e w'' ⟨u, he, hs, hk⟩ => ⟨u, he, hs, h _ _ hk⟩⟩
          · exact .inr ⟨u, w', hr, hs, h _ _ hk⟩
    · rename_i hw; simp only [hw] at hh; exact h _ _ hh

theorem wpM_first (hPr : Pre R) (hlast : waitsT md ops last = true) {i : Nat} {oi : Oper} {v : Value} (hi : ops[i]? = some oi) (hil : i < last) (hsel : ∀ (j : Nat) (o : Oper) cs b, ops[j]? = some o → o.op ≠ .select cs b) :
    ∀ (fuel : Nat) (listed : Array Bool) (a : Act) (V : World), Closed md ops listed →
      (∀ j oj, ops[j]? = some oj → j ≠ i → listed.getD j true = false → (∀ e ∈ oj.after, Region.binds md e = true → e.on ≠ i) → oi.apart ops oj = true) →
      i ∈ Region.ready md ops listed → Calm R P ops oi v a V →
      wpM R P md ops Q' last m fuel (listed.setIfInBounds i true) (a.put oi.dst v) V → wpM R P md ops Q' last m (fuel + 1) listed a V := by
  intro fuel
  induction fuel with
  | zero =>
    intro listed a V hcl _ hr hy H
    refine ⟨fun h => (by rw [h] at hr; cases hr), fun j hj => ?_⟩
    by_cases hji : j = i
    · subst hji; exact hy.mOp hi H
    · have h1 := ready_mono hj hji
      have h2 := H.1 j h1
      subst h2
      have h3 := waitsT_spec hlast hcl hj (j - i) i (Nat.le_refl _) hil
      have h4 := (mem_ready.1 hr).1
      rcases Nat.lt_or_ge i listed.size with h' | h'
      · simp [h'] at h3 h4; rw [h3] at h4; cases h4
      · simp [Array.getElem?_eq_none h'] at h3
  | succ fuel ih =>
    intro listed a V hcl hfree hr hy H
    refine ⟨fun h => (by rw [h] at hr; cases hr), fun j hj => ?_⟩
    by_cases hji : j = i
    · subst hji; exact hy.mOp hi H
    · have h1 := H.2 j (ready_mono hj hji)
      obtain ⟨hjun, oj, hoj, hall⟩ := mem_ready.1 hj
      have hnot : ∀ e ∈ oj.after, Region.binds md e = true → e.on ≠ i := fun e he hb heq => by
        have h1 := hall e he hb
        have h0 := (mem_ready.1 hr).1
        rw [heq] at h1
        rcases Nat.lt_or_ge i listed.size with h' | h'
        · simp [h'] at h0 h1; rw [h0] at h1; cases h1
        · simp [Array.getElem?_eq_none h'] at h1
      have h2 := mOp_put hPr hoj (hfree j oj hoj hji hjun hnot) (fun cs b => hsel i oi cs b hi) (fun cs b => hsel j oj cs b hoj) hy h1
      have hfree' : ∀ k ok, ops[k]? = some ok → k ≠ i → (listed.setIfInBounds j true).getD k true = false →
          (∀ e ∈ ok.after, Region.binds md e = true → e.on ≠ i) → oi.apart ops ok = true := fun k ok hk hki hun hno => by
        refine hfree k ok hk hki ?_ hno
        by_cases hjk : j = k
        · subst hjk; exact hjun
        · rw [getD_set_ne true hjk] at hun; exact hun
      refine mOp_mono (fun a' V' h3 => ih (listed.setIfInBounds j true) a' V' (hcl.step hj) hfree' (ready_mono hr (Ne.symm hji)) h3.1 ?_) h2
      rw [Array.setIfInBounds_comm _ _ hji]
      exact h3.2

/-- A run of quiet operations that call nothing. -/
theorem wpM_seg (hPr : Pre R) (hlast : waitsT md ops last = true) (hs : Region.noSelect ops = true) {V : World} (fuel : Nat) : ∀ (l : List Oper) (k : Nat) (a : Act), (∀ j, j < l.length → l[j]? = ops[k + j]?) → l.all plainB = true → k + l.length ≤ last →
    (List.range k).all (fun i => okR md ops i) = true → (List.range' k l.length).all (fun i => okR md ops i && okF md ops i) = true →
    wpQuiet P ops (fun w' => ∃ s : CW R V, w' = s.w) (fun a' => wpM R P md ops Q' last m fuel (upTo ops.size (k + l.length)) a' V) l a → wpM R P md ops Q' last m (l.length + fuel) (upTo ops.size k) a V
  | [], k, a, _, _, _, _, _, h => by simpa [wpQuiet] using h
  | o :: l, k, a, hl, hp, hkl, hR, hB, h => by
    have h0 : ops[k]? = some o := by simpa using (hl 0 (by simp)).symm
    simp only [List.all_cons, Bool.and_eq_true] at hp
    simp only [List.length_cons, List.range'_succ, List.all_cons, Bool.and_eq_true] at hB
    obtain ⟨⟨hr, hf⟩, hB'⟩ := hB
    have hst : qOp P ops (fun w' => ∃ s : CW R V, w' = s.w) k (wpQuiet P ops (fun w' => ∃ s : CW R V, w' = s.w) (fun a' => wpM R P md ops Q' last m fuel (upTo ops.size (k + (l.length + 1))) a' V) l) a := by unfold qOp; simp only [h0]; exact h
    obtain ⟨v, hy, hK⟩ := yieldsIn_of_qOp h0 hst
    rw [show k + (l.length + 1) = k + 1 + l.length by omega] at hK
    have hR' : (List.range (k + 1)).all (fun i => okR md ops i) = true := by rw [List.range_succ, List.all_append, hR]; simp [hr]
    simp only [List.length_cons] at hkl
    have hrest := wpM_seg hPr hlast hs fuel l (k + 1) (a.put o.dst v) (fun j hj => by have := hl (j + 1) (by simpa using hj); simpa [Nat.add_assoc, Nat.add_comm 1 j] using this) hp.2 (by omega) hR' hB' hK
    rw [← upTo_succ] at hrest
    rw [show (o :: l).length + fuel = (l.length + fuel) + 1 by simp; omega]
    refine wpM_first hPr hlast h0 (by omega) (Region.noSelect_spec hs) (l.length + fuel) _ a V (Closed.upTo hR) (okF_spec h0 hf) (okR_spec hr) ?_ hrest
    rcases hy with ⟨hw, hv⟩ | ⟨hw, rfl⟩
    · refine .inl ⟨hw, fun w hw' => ?_⟩
      have h3 := hv w hw'
      unfold Oper.quietAt at h3
      cases hrn : (execOp a.eval o).run P w with
      | ok n w1 =>
        obtain ⟨u, rfl⟩ := plainB_value hp.1 a.eval w n w1 hrn
        rw [hrn] at h3
        obtain ⟨e1, e2⟩ := h3
        rw [e1, e2]
      | halt x w1 => rw [hrn] at h3; exact h3.elim
    · exact .inr ⟨hw, rfl⟩

/-- A call, or an operation that makes memory: it alone can come up. -/
theorem wpM_call {k : Nat} {o : Oper} {fuel : Nat} {a : Act} {V : World} (h0 : ops[k]? = some o) (hr1 : okR md ops k = true) (hone : okOne md ops k = true) (hw : Region.wanted o (yielded ops a.tmps) = true)
    (f : FuncId) (args args' : Array Value) (hr : ∀ w, (execOp a.eval o).run P w = .ok (.enter f args) w) (he : args = args')
    (h : ∀ w, (∃ n, w = V.drewN n) → Calls P f args' w (fun e w' => ∃ v, e = .returned v ∧ (∃ s : CW R w, w' = s.w) ∧ wpM R P md ops Q' last m fuel (upTo ops.size (k + 1)) (a.put o.dst v) w')) : wpM R P md ops Q' last m (fuel + 1) (upTo ops.size k) a V := by
  subst he
  have hk := okR_spec hr1
  refine ⟨fun e => (by rw [e] at hk; cases hk), fun i hi => ?_⟩
  rw [okOne_spec hone i hi, upTo_succ]
  unfold mOp
  simp only [h0, hw, if_true]
  exact .inr fun w hw' => .inl ⟨f, args, hr w, h w hw'⟩
theorem wpM_make {k : Nat} {o : Oper} {fuel : Nat} {a : Act} {V : World} (h0 : ops[k]? = some o) (hr1 : okR md ops k = true) (hone : okOne md ops k = true) (hw : Region.wanted o (yielded ops a.tmps) = true)
    (h : ∀ w, (∃ n, w = V.drewN n) → ∃ v w', (execOp a.eval o).run P w = .ok (.value v) w' ∧ (∃ s : CW R w, w' = s.w) ∧ wpM R P md ops Q' last m fuel (upTo ops.size (k + 1)) (a.put o.dst v) w') : wpM R P md ops Q' last m (fuel + 1) (upTo ops.size k) a V := by
  have hk := okR_spec hr1
  refine ⟨fun e => (by rw [e] at hk; cases hk), fun i hi => ?_⟩
  rw [okOne_spec hone i hi, upTo_succ]
  unfold mOp
  simp only [h0, hw, if_true]
  exact .inr fun w hw' => .inr (h w hw')
/-- The region's end: from operation 'last' on, in the order of the text. -/
theorem wpM_tail {a : Act} {V : World} (hm : last + m = ops.size) (hB : (List.range' last m).all (fun i => okR md ops i && okOne md ops i) = true) (hp : 0 < m) (h : ∀ w, (∃ n, w = V.drewN n) → wpList P ops Q' (ops.toList.drop last) a w) : wpM R P md ops Q' last m 0 (upTo ops.size last) a V := by
  have hlen : (ops.toList.drop last).length = m := by simp; omega
  have h0 : okR md ops last = true ∧ okOne md ops last = true := by
    have := (List.all_eq_true.1 hB) last (by simp [List.mem_range']; omega)
    simpa using this
  refine ⟨okOne_spec h0.2, fun w hw => ?_⟩
  have := wpAny_chain (md := md) (ops.toList.drop last) last a w (fun j hj => by rw [List.getElem?_drop]; simp) (by rw [hlen]; exact hm) (by rw [hlen]; exact hB) (h w hw)
  rw [hlen] at this
  exact this

/-- The region: n quiet operations, then k more ahead of the chain of m. -/
theorem wp_region_mix (hPr : Pre R) {id : Nat} {a : Act} {w : World} (n k m : Nat) (hn : ops.size = n + k + m) (hm : P.follows .mixedOrders = true) (hs : Region.noSelect ops = true) (hlast : waitsT .any ops (n + k) = true) (hB : (List.range' 0 n).all (fun i => okR .any ops i && okF .any ops i) = true) (hp : (ops.toList.take n).all plainB = true)
    (h : wpQuiet P ops (fun w' => ∃ s : CW R w, w' = s.w) (fun a' => wpM R P .any ops Q' (n + k) m k (upTo ops.size n) a' w) (ops.toList.take n) a) : (Code.region id ops true).wp P Q' a w := by
  have hlen : (ops.toList.take n).length = n := by simp; omega
  have h1 := wpM_seg hPr (Q' := Q') (last := n + k) (m := m) hlast hs k (ops.toList.take n) 0 a (fun j hj => by rw [List.getElem?_take_of_lt (by omega)]; simp) hp (by rw [hlen]; omega) (by simp) (by rw [hlen]; exact hB) (by rw [hlen, Nat.zero_add]; exact h)
  rw [hlen] at h1
  refine wp_region_any hm ?_
  rw [upTo_zero]
  have h2 := wpAny_of_M hPr (n + k) _ a w { w with drawn := w.drawn + 1 } ⟨1, rfl⟩ h1
  rw [← hn] at h2
  exact h2
/-- From operation k on: n quiet operations. -/
theorem wpM_next (hPr : Pre R) {a : Act} {V : World} (k n f : Nat) (hn : k + n ≤ last) (hl : last ≤ ops.size) (hlast : waitsT md ops last = true) (hs : Region.noSelect ops = true) (hR : (List.range k).all (fun i => okR md ops i) = true) (hB : (List.range' k n).all (fun i => okR md ops i && okF md ops i) = true) (hp : ((ops.toList.drop k).take n).all plainB = true)
    (h : wpQuiet P ops (fun w' => ∃ s : CW R V, w' = s.w) (fun a' => wpM R P md ops Q' last m f (upTo ops.size (k + n)) a' V) ((ops.toList.drop k).take n) a) : wpM R P md ops Q' last m (n + f) (upTo ops.size k) a V := by
  have hlen : ((ops.toList.drop k).take n).length = n := by simp; omega
  have := wpM_seg hPr (Q' := Q') (m := m) hlast hs f ((ops.toList.drop k).take n) k a (fun j hj => by rw [List.getElem?_take_of_lt (by omega), List.getElem?_drop]; simp) hp (by rw [hlen]; exact hn) hR (by rw [hlen]; exact hB) (by rw [hlen]; exact h)
  rw [hlen] at this
  exact this
end
end Go.Proofs.YthiabbgkfmopiaaGreat.Gen

