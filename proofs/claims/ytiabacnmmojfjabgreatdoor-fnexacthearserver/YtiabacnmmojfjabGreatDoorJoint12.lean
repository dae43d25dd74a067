/- As our text Mix, for whatever class of worlds: 'R V w' says what is left of V in w behind the region's calls (a relation that goes on, and does not mind a draw); a call itself is asked only where nothing but draws has happened since the last one: for regions that draw their order and hold a call that writes what is known (a draw from a source). No program in it. -/
import Derived.Test.YtiabacnmmojfjabGreatDoorMix
import Derived.Test.YtiabacnmmojfjabGreatDoorJoint6
import Derived.Test.YtiabacnmmojfjabGreatDoorJoint11
import Derived.Test.YtiabacnmmojfjabGreatDoorJoint5
import Derived.Test.YtiabacnmmojfjabGreatDoorJoint2
import Derived.Deep.AppendLies
namespace Go.Proofs.YtiabacnmmojfjabGreatDoor.Gen
open Go Go.RowKit Go.Proofs.YtiabacnmmojfjabGreatDoor

structure Pre (R : World → World → Prop) : Prop where
  trans : ∀ a b c, R a b → R b c → R a c
  drewN : ∀ V n, R V (V.drewN n)
/-- A world of the class of V. -/
structure CW (R : World → World → Prop) (V : World) where
  w : World
  h : R V w
theorem CW.at {R : World → World → Prop} {V : World} {p : Addr} {v : Value} (h : ∀ w, R V w → w.cell? p = some v) : ∀ s : CW R V, s.w.cell? p = some v := fun s => h s.w s.h
/-- All but one row is left. -/
def But (b : Nat) (V w : World) : Prop := V.grownBy w (some b)
theorem But.pre (b : Nat) : Pre (But b) := ⟨fun _ _ _ h k => grownBy_trans h k, fun V n => grownBy_drewN V n _⟩
theorem But.cell {b : Nat} {V : World} {p : Addr} {v : Value} (h : V.cell? p = some v) (hne : p.block ≠ b) : ∀ s : CW (But b) V, s.w.cell? p = some v := fun s => by
  have hl := World.block_lt_of_cell? V _ h
  rw [World.cell?_of_block (w := V) (a := p) (s.h.block p.block hl (fun e => hne (Option.some.inj e)))]
  exact h
theorem But.some (b : Nat) (V : World) : Nonempty (CW (But b) V) := ⟨⟨V, World.grownBy.refl _ _⟩⟩

section
variable {P : Program} {ops : Array Oper} {md : Region.Mode} {Q' : Exit → Act → World → Prop} {last m : Nat} {R : World → World → Prop}

theorem cw_drew (hPr : Pre R) {V w : World} (h : ∃ n, w = V.drewN n) : ∃ s : CW R V, w = s.w := by
  obtain ⟨n, rfl⟩ := h
  exact ⟨⟨_, hPr.drewN V n⟩, rfl⟩
theorem drew_refl (V : World) : ∃ n, V = V.drewN n := ⟨0, rfl⟩
theorem cw_trans (hPr : Pre R) {V w x : World} (h : ∃ s : CW R V, w = s.w) (k : ∃ s : CW R w, x = s.w) : ∃ s : CW R V, x = s.w := by
  obtain ⟨s, rfl⟩ := h
  obtain ⟨t, rfl⟩ := k
  exact ⟨⟨t.w, hPr.trans _ _ _ s.h t.h⟩, rfl⟩
def Calm (R : World → World → Prop) (P : Program) (ops : Array Oper) (o : Oper) (v : Value) (a : Act) (V : World) : Prop :=
  (Region.wanted o (yielded ops a.tmps) = true ∧ ∀ w, (∃ s : CW R V, w = s.w) → (execOp a.eval o).run P w = .ok (.value v) w) ∨
  (Region.wanted o (yielded ops a.tmps) = false ∧ v = undef)
theorem Calm.down {o : Oper} {v : Value} {a : Act} {V w : World} (h : Calm R P ops o v a V) (hPr : Pre R) (hw : ∃ s : CW R V, w = s.w) : Calm R P ops o v a w := by
  rcases h with ⟨h1, h2⟩ | h
  · exact .inl ⟨h1, fun x hx => h2 x (cw_trans hPr hw hx)⟩
  · exact .inr h
theorem Calm.same {o : Oper} {v : Value} {a a' : Act} {V : World} (h : Calm R P ops o v a V) (he : execOp a'.eval o = execOp a.eval o) (hw : Region.wanted o (yielded ops a'.tmps) = Region.wanted o (yielded ops a.tmps)) : Calm R P ops o v a' V := by
  unfold Calm at *
  rw [he, hw]
  exact h

/-- Operation number i comes up in state a, in the class of V: it gives one value; or it calls; or it makes memory. -/
def mOp (R : World → World → Prop) (P : Program) (ops : Array Oper) (i : Nat) (K : Act → World → Prop) (a : Act) (V : World) : Prop :=
  match ops[i]? with
  | none => K a V
  | some o => if Region.wanted o (yielded ops a.tmps) then
      (∃ v, (∀ w, (∃ s : CW R V, w = s.w) → (execOp a.eval o).run P w = .ok (.value v) w) ∧ K (a.put o.dst v) V) ∨
      (∀ w, (∃ n, w = V.drewN n) → (∃ f args, (execOp a.eval o).run P w = .ok (.enter f args) w ∧ Calls P f args w (fun e w' => ∃ v, e = .returned v ∧ (∃ s : CW R w, w' = s.w) ∧ K (a.put o.dst v) w')) ∨
        (∃ v w', (execOp a.eval o).run P w = .ok (.value v) w' ∧ (∃ s : CW R w, w' = s.w) ∧ K (a.put o.dst v) w'))
    else K (a.put o.dst undef) V

def wpM (R : World → World → Prop) (P : Program) (md : Region.Mode) (ops : Array Oper) (Q' : Exit → Act → World → Prop) (last m : Nat) : Nat → Array Bool → Act → World → Prop
  | 0, listed, a, V => (∀ i ∈ Region.ready md ops listed, i = last) ∧ ∀ w, (∃ n, w = V.drewN n) → wpAny P md ops Q' m listed a w
  | fuel + 1, listed, a, V => Region.ready md ops listed ≠ [] ∧ ∀ i ∈ Region.ready md ops listed, mOp R P ops i (wpM R P md ops Q' last m fuel (listed.setIfInBounds i true)) a V

theorem mOp_wp (hPr : Pre R) {i : Nat} {K : Act → World → Prop} {K' : Act → World → Prop} {a : Act} {V w : World} (hw : ∃ n, w = V.drewN n) (h : ∀ a' V' w', (∃ n, w' = V'.drewN n) → K a' V' → K' a' w') (hh : mOp R P ops i K a V) : wpOp P ops Q' i K' a w := by
  unfold mOp at hh
  unfold wpOp
  split
  · rename_i ho; simp only [ho] at hh; exact h _ _ _ hw hh
  · rename_i o ho
    simp only [ho] at hh
    split
    · rename_i hwt
      simp only [hwt, if_true] at hh
      refine .inl ?_
      unfold Oper.wp
      rcases hh with ⟨v, h1, h2⟩ | h1
      · rw [h1 w (cw_drew hPr hw)]
        simp only [Oper.upon]
        exact h _ _ _ hw h2
      · rcases h1 w hw with ⟨f, args, hr, hc⟩ | ⟨v, w', hr, hs, hk⟩
        · rw [hr]
          simp only [Oper.upon]
          exact hc.mono fun e w'' ⟨v, he, hs, hk⟩ => by subst he; exact h _ _ _ (drew_refl w'') hk
        · rw [hr]
          simp only [Oper.upon]
          exact h _ _ _ (drew_refl w') hk
    · rename_i hwt
      simp only [hwt] at hh
      exact h _ _ _ hw hh

theorem wpAny_of_M (hPr : Pre R) : ∀ (fuel : Nat) (listed : Array Bool) (a : Act) (V w : World), (∃ n, w = V.drewN n) → wpM R P md ops Q' last m fuel listed a V → wpAny P md ops Q' (fuel + m) listed a w
  | 0, _, _, _, _, hw, h => by rw [Nat.zero_add]; exact h.2 _ hw
  | fuel + 1, _, _, _, _, hw, h => by
    rw [show fuel + 1 + m = (fuel + m) + 1 by omega]
    exact ⟨fun h0 => absurd h0 h.1, fun i hi => mOp_wp hPr hw (fun a' V' w' hw' hk => wpAny_of_M hPr fuel _ a' V' w' hw' hk) (h.2 i hi)⟩

theorem Calm.mOp {i : Nat} {o : Oper} {v : Value} {a : Act} {V : World} (hi : ops[i]? = some o) (h : Calm R P ops o v a V) {K : Act → World → Prop} (hk : K (a.put o.dst v) V) : mOp R P ops i K a V := by
  unfold Go.Proofs.YtiabacnmmojfjabGreatDoor.Gen.mOp
  simp only [hi]
  rcases h with ⟨hw, hv⟩ | ⟨hw, rfl⟩
  · simp only [hw, if_true]
    exact .inl ⟨v, hv, hk⟩
  · simp only [hw, Bool.false_eq_true, if_false]; exact hk

theorem mOp_put (hPr : Pre R) {j : Nat} {oi oj : Oper} {v : Value} (hj : ops[j]? = some oj) (hap : oi.apart ops oj = true)
    (hsi : ∀ cs b, oi.op ≠ .select cs b) (hsj : ∀ cs b, oj.op ≠ .select cs b) {K : Act → World → Prop} {a : Act} {V : World}
    (hy : Calm R P ops oi v a V) (h : mOp R P ops j K (a.put oi.dst v) V) :
    mOp R P ops j (fun a' V' => Calm R P ops oi v a' V' ∧ K (a'.put oi.dst v) V') a V := by
  obtain ⟨h1, h2, h3⟩ := Oper.apart_spec hap
  have keep : ∀ u, Calm R P ops oi v (a.put oj.dst u) V := fun u =>
    hy.same (execOp_put oi hsi a oj.dst u h3) (wanted_put oi a oj.dst u h3)
  unfold mOp at *
  simp only [hj] at *
  rw [wanted_put oj a oi.dst v h1] at h
  split
  · rename_i hw
    simp only [hw, if_true] at h
    rcases h with ⟨u, hu, hn⟩ | ho
    · refine .inl ⟨u, fun w hw' => ?_, keep u, by rw [← Act.put_comm a v u h2]; exact hn⟩
      have := hu w hw'
      rwa [execOp_put oj hsj a oi.dst v h1] at this
    · refine .inr (fun w hw' => ?_)
      rcases ho w hw' with ⟨f, args, hr, hc⟩ | ⟨u, w', hr, hs, hk⟩
      · rw [execOp_put oj hsj a oi.dst v h1] at hr
        exact .inl ⟨f, args, hr, hc.mono fun e w'' ⟨u, he, hs, hk⟩ => ⟨u, he, hs, (keep u).down hPr (cw_trans hPr (cw_drew hPr hw') hs), by rw [← Act.put_comm a v u h2]; exact hk⟩⟩
      · rw [execOp_put oj hsj a oi.dst v h1] at hr
        exact .inr ⟨u, w', hr, hs, (keep u).down hPr (cw_trans hPr (cw_drew hPr hw') hs), by rw [← Act.put_comm a v u h2]; exact hk⟩
  · rename_i hw
    simp only [hw] at h
    exact ⟨keep _, by rw [← Act.put_comm a v undef h2]; exact h⟩

theorem mOp_mono {i : Nat} {a : Act} {V : World} {K K' : Act → World → Prop} (h : ∀ a V, K a V → K' a V) (hh : mOp R P ops i K a V) : mOp R P ops i K' a V := by
  unfold mOp at *
  split
  · exact h _ _ (by simpa [*] using hh)
  · rename_i o ho
    simp only [ho] at hh
    split
    · rename_i hw
      simp only [hw, if_true] at hh
      rcases hh with ⟨u, hu, hn⟩ | ho
      · exact .inl ⟨u, hu, h _ _ hn⟩
      · exact .inr fun w hw' => by
          rcases ho w hw' with ⟨f, args, hr, hc⟩ | ⟨u, w', hr, hs, hk⟩
          · exact .inl ⟨f, args, hr, hc.mono fun e w'' ⟨u, he, hs, hk⟩ => ⟨u, he, hs, h _ _ hk⟩⟩
          · exact .inr ⟨u, w', hr, hs, h _ _ hk⟩
    · rename_i hw; simp only [hw] at hh; exact h _ _ hh

theorem wpM_first (hPr : Pre R) (hlast : waitsT md ops last = true) {i : Nat} {oi : Oper} {v : Value} (hi : ops[i]? = some oi) (hil : i < last) (hsel : ∀ (j : Nat) (o : Oper) cs b, ops[j]? = some o → o.op ≠ .select cs b) :
    ∀ (fuel : Nat) (listed : Array Bool) (a : Act) (V : World), Closed md ops listed →
      (∀ j oj, ops[j]? = some oj → j ≠ i → listed.getD j true = false → (∀ e ∈ oj.after, Region.binds md e = true → e.on ≠ i) → oi.apart ops oj = true) →
      i ∈ Region.ready md ops listed → Calm R P ops oi v a V →
      wpM R P md ops Q' last m fuel (listed.setIfInBounds i true) (a.put oi.dst v) V → wpM R P md ops Q' last m (fuel + 1) listed a V := by
  intro fuel
  induction fuel with
  | zero =>
    intro listed a V hcl _ hr hy H
    refine ⟨fun h => (by rw [h] at hr; cases hr), fun j hj => ?_⟩
    by_cases hji : j = i
    · subst hji; exact hy.mOp hi H
    · have h1 := ready_mono hj hji
      have h2 := H.1 j h1
      subst h2
      have h3 := waitsT_spec hlast hcl hj (j - i) i (Nat.le_refl _) hil
      have h4 := (mem_ready.1 hr).1
      rcases Nat.lt_or_ge i listed.size with h' | h'
      · simp [h'] at h3 h4; rw [h3] at h4; cases h4
      · simp [Array.getElem?_eq_none h'] at h3
  | succ fuel ih =>
    intro listed a V hcl hfree hr hy H
    refine ⟨fun h => (by rw [h] at hr; cases hr), fun j hj => ?_⟩
    by_cases hji : j = i
    · subst hji; exact hy.mOp hi H
    · have h1 := H.2 j (ready_mono hj hji)
      obtain ⟨hjun, oj, hoj, hall⟩ := mem_ready.1 hj
      have hnot : ∀ e ∈ oj.after, Region.binds md e = true → e.on ≠ i := fun e he hb heq => by
        have h1 := hall e he hb
        have h0 := (mem_ready.1 hr).1
        rw [heq] at h1
        rcases Nat.lt_or_ge i listed.size with h' | h'
        · simp [h'] at h0 h1; rw [h0] at h1; cases h1
        · simp [Array.getElem?_eq_none h'] at h1
      have h2 := mOp_put hPr hoj (hfree j oj hoj hji hjun hnot) (fun cs b => hsel i oi cs b hi) (fun cs b => hsel j oj cs b hoj) hy h1
      have hfree' : ∀ k ok, ops[k]? = some ok → k ≠ i → (listed.setIfInBounds j true).getD k true = false →
          (∀ e ∈ ok.after, Region.binds md e = true → e.on ≠ i) → oi.apart ops ok = true := fun k ok hk hki hun hno => by
        refine hfree k ok hk hki ?_ hno
        by_cases hjk : j = k
        · subst hjk; exact hjun
        · rw [getD_set_ne true hjk] at hun; exact hun
      refine mOp_mono (fun a' V' h3 => ih (listed.setIfInBounds j true) a' V' (hcl.step hj) hfree' (ready_mono hr (Ne.symm hji)) h3.1 ?_) h2
      rw [Array.setIfInBounds_comm _ _ hji]
      exact h3.2

/-- A run of quiet operations that call nothing. -/
theorem wpM_seg (hPr : Pre R) (hlast : waitsT md ops last = true) (hs : Region.noSelect ops = true) {V : World} (fuel : Nat) : ∀ (l : List Oper) (k : Nat) (a : Act), (∀ j, j < l.length → l[j]? = ops[k + j]?) → l.all plainB = true → k + l.length ≤ last →
    (List.range k).all (fun i => okR md ops i) = true → (List.range' k l.length).all (fun i => okR md ops i && okF md ops i) = true →
    wpQuiet P ops (fun w' => ∃ s : CW R V, w' = s.w) (fun a' => wpM R P md ops Q' last m fuel (upTo ops.size (k + l.length)) a' V) l a → wpM R P md ops Q' last m (l.length + fuel) (upTo ops.size k) a V
  | [], k, a, _, _, _, _, _, h => by simpa [wpQuiet] using h
  | o :: l, k, a, hl, hp, hkl, hR, hB, h => by
    have h0 : ops[k]? = some o := by simpa using (hl 0 (by simp)).symm
    simp only [List.all_cons, Bool.and_eq_true] at hp
    simp only [List.length_cons, List.range'_succ, List.all_cons, Bool.and_eq_true] at hB
    obtain ⟨⟨hr, hf⟩, hB'⟩ := hB
    have hst : qOp P ops (fun w' => ∃ s : CW R V, w' = s.w) k (wpQuiet P ops (fun w' => ∃ s : CW R V, w' = s.w) (fun a' => wpM R P md ops Q' last m fuel (upTo ops.size (k + (l.length + 1))) a' V) l) a := by unfold qOp; simp only [h0]; exact h
    obtain ⟨v, hy, hK⟩ := yieldsIn_of_qOp h0 hst
    rw [show k + (l.length + 1) = k + 1 + l.length by omega] at hK
    have hR' : (List.range (k + 1)).all (fun i => okR md ops i) = true := by rw [List.range_succ, List.all_append, hR]; simp [hr]
    simp only [List.length_cons] at hkl
    have hrest := wpM_seg hPr hlast hs fuel l (k + 1) (a.put o.dst v) (fun j hj => by have := hl (j + 1) (by simpa using hj); simpa [Nat.add_assoc, Nat.add_comm 1 j] using this) hp.2 (by omega) hR' hB' hK
    rw [← upTo_succ] at hrest
    rw [show (o :: l).length + fuel = (l.length + fuel) + 1 by simp; omega]
    refine wpM_first hPr hlast h0 (by omega) (Region.noSelect_spec hs) (l.length + fuel) _ a V (Closed.upTo hR) (okF_spec h0 hf) (okR_spec hr) ?_ hrest
    rcases hy with ⟨hw, hv⟩ | ⟨hw, rfl⟩
    · refine .inl ⟨hw, fun w hw' => ?_⟩
      have h3 := hv w hw'
      unfold Oper.quietAt at h3
      cases hrn : (execOp a.eval o).run P w with
      | ok n w1 =>
        obtain ⟨u, rfl⟩ := plainB_value hp.1 a.eval w n w1 hrn
        rw [hrn] at h3
        obtain ⟨e1, e2⟩ := h3
        rw [e1, e2]
      | halt x w1 => rw [hrn] at h3; exact h3.elim
    · exact .inr ⟨hw, rfl⟩

/-- A call, or an operation that makes memory: it alone can come up. -/
theorem wpM_call {k : Nat} {o : Oper} {fuel : Nat} {a : Act} {V : World} (h0 : ops[k]? = some o) (hr1 : okR md ops k = true) (hone : okOne md ops k = true) (hw : Region.wanted o (yielded ops a.tmps) = true)
    (f : FuncId) (args args' : Array Value) (hr : ∀ w, (execOp a.eval o).run P w = .ok (.enter f args) w) (he : args = args')
    (h : ∀ w, (∃ n, w = V.drewN n) → Calls P f args' w (fun e w' => ∃ v, e = .returned v ∧ (∃ s : CW R w, w' = s.w) ∧ wpM R P md ops Q' last m fuel (upTo ops.size (k + 1)) (a.put o.dst v) w')) : wpM R P md ops Q' last m (fuel + 1) (upTo ops.size k) a V := by
  subst he
  have hk := okR_spec hr1
  refine ⟨fun e => (by rw [e] at hk; cases hk), fun i hi => ?_⟩
  rw [okOne_spec hone i hi, upTo_succ]
  unfold mOp
  simp only [h0, hw, if_true]
  exact .inr fun w hw' => .inl ⟨f, args, hr w, h w hw'⟩
theorem wpM_make {k : Nat} {o : Oper} {fuel : Nat} {a : Act} {V : World} (h0 : ops[k]? = some o) (hr1 : okR md ops k = true) (hone : okOne md ops k = true) (hw : Region.wanted o (yielded ops a.tmps) = true)
    (h : ∀ w, (∃ n, w = V.drewN n) → ∃ v w', (execOp a.eval o).run P w = .ok (.value v) w' ∧ (∃ s : CW R w, w' = s.w) ∧ wpM R P md ops Q' last m fuel (upTo ops.size (k + 1)) (a.put o.dst v) w') : wpM R P md ops Q' last m (fuel + 1) (upTo ops.size k) a V := by
  have hk := okR_spec hr1
  refine ⟨fun e => (by rw [e] at hk; cases hk), fun i hi => ?_⟩
  rw [okOne_spec hone i hi, upTo_succ]
  unfold mOp
  simp only [h0, hw, if_true]
  exact .inr fun w hw' => .inr (h w hw')
/-- The region's end: from operation 'last' on, in the order of the text. -/
theorem wpM_tail {a : Act} {V : World} (hm : last + m = ops.size) (hB : (List.range' last m).all (fun i => okR md ops i && okOne md ops i) = true) (hp : 0 < m) (h : ∀ w, (∃ n, w = V.drewN n) → wpList P ops Q' (ops.toList.drop last) a w) : wpM R P md ops Q' last m 0 (upTo ops.size last) a V := by
  have hlen : (ops.toList.drop last).length = m := by simp; omega
  have h0 : okR md ops last = true ∧ okOne md ops last = true := by
    have := (List.all_eq_true.1 hB) last (by simp [List.mem_range']; omega)
    simpa using this
  refine ⟨okOne_spec h0.2, fun w hw => ?_⟩
  have := wpAny_chain (md := md) (ops.toList.drop last) last a w (fun j hj => by rw [List.getElem?_drop]; simp) (by rw [hlen]; exact hm) (by rw [hlen]; exact hB) (h w hw)
  rw [hlen] at this
  exact this

/-- The region: n quiet operations, then k more ahead of the chain of m. -/
theorem wp_region_mix (hPr : Pre R) {id : Nat} {a : Act} {w : World} (n k m : Nat) (hn : ops.size = n + k + m) (hm : P.follows .mixedOrders = true) (hs : Region.noSelect ops = true) (hlast : waitsT .any ops (n + k) = true) (hB : (List.range' 0 n).all (fun i => okR .any ops i && okF .any ops i) = true) (hp : (ops.toList.take n).all plainB = true)
    (h : wpQuiet P ops (fun w' => ∃ s : CW R w, w' = s.w) (fun a' => wpM R P .any ops Q' (n + k) m k (upTo ops.size n) a' w) (ops.toList.take n) a) : (Code.region id ops true).wp P Q' a w := by
  have hlen : (ops.toList.take n).length = n := by simp; omega
  have h1 := wpM_seg hPr (Q' := Q') (last := n + k) (m := m) hlast hs k (ops.toList.take n) 0 a (fun j hj => by rw [List.getElem?_take_of_lt (by omega)]; simp) hp (by rw [hlen]; omega) (by simp) (by rw [hlen]; exact hB) (by rw [hlen, Nat.zero_add]; exact h)
  rw [hlen] at h1
  refine wp_region_any hm ?_
  rw [upTo_zero]
  have h2 := wpAny_of_M hPr (n + k) _ a w { w with drawn := w.drawn + 1 } ⟨1, rfl⟩ h1
  rw [← hn] at h2
  exact h2
/-- From operation k on: n quiet operations. -/
theorem wpM_next (hPr : Pre R) {a : Act} {V : World} (k n f : Nat) (hn : k + n ≤ last) (hl : last ≤ ops.size) (hlast : waitsT md ops last = true) (hs : Region.noSelect ops = true) (hR : (List.range k).all (fun i => okR md ops i) = true) (hB : (List.range' k n).all (fun i => okR md ops i && okF md ops i) = true) (hp : ((ops.toList.drop k).take n).all plainB = true)
    (h : wpQuiet P ops (fun w' => ∃ s : CW R V, w' = s.w) (fun a' => wpM R P md ops Q' last m f (upTo ops.size (k + n)) a' V) ((ops.toList.drop k).take n) a) : wpM R P md ops Q' last m (n + f) (upTo ops.size k) a V := by
  have hlen : ((ops.toList.drop k).take n).length = n := by simp; omega
  have := wpM_seg hPr (Q' := Q') (m := m) hlast hs f ((ops.toList.drop k).take n) k a (fun j hj => by rw [List.getElem?_take_of_lt (by omega), List.getElem?_drop]; simp) hp (by rw [hlen]; exact hn) hR (by rw [hlen]; exact hB) (by rw [hlen]; exact h)
  rw [hlen] at this
  exact this
end
end Go.Proofs.YtiabacnmmojfjabGreatDoor.Gen

/- As our text Pick, for the class of worlds in which all below B is left: for regions that draw their order, in which an append to a row of one's own (above B) stands ahead of quiet operations that need not wait for it. No program in it. -/
namespace Go.Proofs.YtiabacnmmojfjabGreatDoor.Gen
open Go Go.RowKit Go.Proofs.YtiabacnmmojfjabGreatDoor

/-- All below B is left. -/
theorem low_pre (B : Nat) : Pre (Below B) := ⟨fun _ _ _ h k => h.trans k, fun _ _ => ⟨rfl, rfl, rfl, Nat.le_refl _, fun _ _ => rfl⟩⟩
theorem low_cell {B : Nat} {V : World} {p : Addr} {v : Value} (h : V.cell? p = some v) (hl : p.block < B) : ∀ s : CW (Below B) V, s.w.cell? p = some v := fun s => by
  rw [World.cell?_of_block (w := V) (a := p) (s.h.block p.block hl)]
  exact h
theorem low_some (B : Nat) (V : World) : Nonempty (CW (Below B) V) := ⟨⟨V, Below.refl _ _⟩⟩

section
variable {P : Program} {ops : Array Oper} {md : Region.Mode} {Q' : Exit → Act → World → Prop} {last m : Nat} {R : World → World → Prop}

theorem wpM_pick (hPr : Pre R) (hlast : waitsT md ops last = true) (hs : Region.noSelect ops = true) {V : World} (fuel : Nat) : ∀ (is : List Nat) (L : Array Bool) (a : Act), okSeq md ops last L is = true → (opsAt ops is).all plainB = true →
    wpQuiet P ops (fun w' => ∃ s : CW R V, w' = s.w) (fun a' => wpM R P md ops Q' last m fuel (setAll L is) a' V) (opsAt ops is) a → wpM R P md ops Q' last m (is.length + fuel) L a V
  | [], L, a, _, _, h => by simpa [opsAt, wpQuiet, setAll] using h
  | i :: is, L, a, hok, hp, h => by
    simp only [okSeq, Bool.and_eq_true, decide_eq_true_eq] at hok
    obtain ⟨hil, hcl, hr, hf, hok'⟩ := hok
    have hr' : i ∈ Region.ready md ops L := by simpa using hr
    obtain ⟨-, o, h0, -⟩ := mem_ready.1 hr'
    have ho : opsAt ops (i :: is) = o :: opsAt ops is := by simp only [opsAt, h0]
    rw [ho] at h hp
    simp only [List.all_cons, Bool.and_eq_true] at hp
    have hst : qOp P ops (fun w' => ∃ s : CW R V, w' = s.w) i (wpQuiet P ops (fun w' => ∃ s : CW R V, w' = s.w) (fun a' => wpM R P md ops Q' last m fuel (setAll L (i :: is)) a' V) (opsAt ops is)) a := by unfold qOp; simp only [h0]; exact h
    obtain ⟨v, hy, hK⟩ := yieldsIn_of_qOp h0 hst
    have hrest := wpM_pick hPr hlast hs fuel is (L.setIfInBounds i true) (a.put o.dst v) hok' hp.2 hK
    rw [show (i :: is).length + fuel = (is.length + fuel) + 1 by simp; omega]
    refine wpM_first hPr hlast h0 hil (Region.noSelect_spec hs) (is.length + fuel) _ a V (closedB_spec hcl) (Region.free_spec h0 hf) hr' ?_ hrest
    rcases hy with ⟨hw, hv⟩ | ⟨hw, rfl⟩
    · refine .inl ⟨hw, fun w hw' => ?_⟩
      have h3 := hv w hw'
      unfold Oper.quietAt at h3
      cases hrn : (execOp a.eval o).run P w with
      | ok n w1 =>
        obtain ⟨u, rfl⟩ := plainB_value hp.1 a.eval w n w1 hrn
        rw [hrn] at h3
        obtain ⟨e1, e2⟩ := h3
        rw [e1, e2]
      | halt x w1 => rw [hrn] at h3; exact h3.elim
    · exact .inr ⟨hw, rfl⟩

theorem wpM_only {L : Array Bool} {i fuel : Nat} {a : Act} {V : World} (hr : Region.ready md ops L = [i]) (h : mOp R P ops i (wpM R P md ops Q' last m fuel (L.setIfInBounds i true)) a V) : wpM R P md ops Q' last m (fuel + 1) L a V :=
  ⟨by rw [hr]; simp, fun j hj => by rw [hr] at hj; rw [List.mem_singleton.1 hj]; exact h⟩

/-- Operations that make memory and call no function of the program. -/
def makesB (o : Oper) : Bool := match o.op with
  | .buildSlice .. => true
  | .call c => match c.callee with
    | .builtin .append => true
    | _ => false
  | _ => false
theorem makesB_value {o : Oper} (hp : makesB o = true) (ρ : Operand → Value) (w : World) (n : Next) (w' : World) (h : (execOp ρ o).run P w = .ok n w') : ∃ u, n = .value u := by
  unfold makesB at hp
  unfold execOp at h
  split at hp <;> rename_i ho <;> simp only [ho] at h
  · exact v_plain _ w n w' h
  · split at hp
    · rename_i hc
      simp only [resolve, hc, Sem.run_bind, Sem.run_pure, Result.andThen_ok, invoke, builtin] at h
      exact a_plain _ n w' h
    · cases hp
  · cases hp
theorem mOp_make {k : Nat} {o : Oper} {a : Act} {V : World} {K : Act → World → Prop} (h0 : ops[k]? = some o) (hw : Region.wanted o (yielded ops a.tmps) = true)
    (h : ∀ w, (∃ n, w = V.drewN n) → ∃ v w', (execOp a.eval o).run P w = .ok (.value v) w' ∧ (∃ s : CW R w, w' = s.w) ∧ K (a.put o.dst v) w') : mOp R P ops k K a V := by
  unfold mOp
  simp only [h0, hw, if_true]
  exact .inr fun w hw' => .inr (h w hw')
theorem mOp_call {k : Nat} {o : Oper} {a : Act} {V : World} {K : Act → World → Prop} (h0 : ops[k]? = some o) (hw : Region.wanted o (yielded ops a.tmps) = true)
    (f : FuncId) (args args' : Array Value) (hr : ∀ w, (execOp a.eval o).run P w = .ok (.enter f args) w) (he : args = args')
    (h : ∀ w, (∃ n, w = V.drewN n) → Calls P f args' w (fun e w' => ∃ v, e = .returned v ∧ (∃ s : CW R w, w' = s.w) ∧ K (a.put o.dst v) w')) : mOp R P ops k K a V := by
  subst he
  unfold mOp
  simp only [h0, hw, if_true]
  exact .inr fun w hw' => .inl ⟨f, args, hr w, h w hw'⟩
/-- In the midst of a region: these quiet operations next. -/
theorem wpM_more (hPr : Pre R) {V : World} {L : Array Bool} {a : Act} (is : List Nat) (n fuel : Nat) (hn : n = is.length + fuel) (hlast : waitsT md ops last = true) (hs : Region.noSelect ops = true) (hB : okSeq md ops last L is = true) (hp : (opsAt ops is).all plainB = true)
    (h : wpQuiet P ops (fun w' => ∃ s : CW R V, w' = s.w) (fun a' => wpM R P md ops Q' last m fuel (setAll L is) a' V) (opsAt ops is) a) : wpM R P md ops Q' last m n L a V := by
  subst hn
  exact wpM_pick hPr hlast hs fuel is L a hB hp h
/-- It makes memory: by the walk's own laws. -/
theorem mOp_list {k : Nat} {o : Oper} {a : Act} {V : World} {K : Act → World → Prop} (h0 : ops[k]? = some o) (hw : Region.wanted o (yielded ops a.tmps) = true) (hk : makesB o = true)
    (h : ∀ w, (∃ n, w = V.drewN n) → wpList P ops (fun e a' w' => e = .normal ∧ R w w' ∧ K a' w') [o] a w) : mOp R P ops k K a V := by
  unfold mOp
  simp only [h0, hw, if_true]
  refine .inr fun w hw' => .inr ?_
  have h1 := h w hw'
  unfold wpList at h1
  simp only [hw, if_true] at h1
  rcases h1 with h1 | ⟨-, a1, w1, h1, -⟩
  · unfold Oper.wp at h1
    cases hrn : (execOp a.eval o).run P w with
    | ok n w1 =>
      obtain ⟨u, rfl⟩ := makesB_value hk a.eval w n w1 hrn
      rw [hrn] at h1
      simp only [Oper.upon, wpList] at h1
      exact ⟨u, w1, rfl, ⟨⟨w1, h1.2.1⟩, rfl⟩, h1.2.2⟩
    | halt x w1 =>
      rw [hrn] at h1
      cases x <;> simp [Oper.upon] at h1
  · cases h1
theorem wpM_end {L : Array Bool} {a : Act} {V : World} (hL : L = upTo ops.size last) (hm : last + m = ops.size) (hB : (List.range' last m).all (fun i => okR md ops i && okOne md ops i) = true) (hp : 0 < m) (h : ∀ w, (∃ n, w = V.drewN n) → wpList P ops Q' (ops.toList.drop last) a w) : wpM R P md ops Q' last m 0 L a V := by
  subst hL
  exact wpM_tail hm hB hp h
theorem wp_region_pick (hPr : Pre R) {id : Nat} {a : Act} {w : World} (is : List Nat) (last k m : Nat) (hk : last = is.length + k) (hn : ops.size = last + m) (hm : P.follows .mixedOrders = true) (hs : Region.noSelect ops = true) (hlast : waitsT .any ops last = true) (hB : okSeq .any ops last (Array.replicate ops.size false) is = true) (hp : (opsAt ops is).all plainB = true)
    (h : wpQuiet P ops (fun w' => ∃ s : CW R w, w' = s.w) (fun a' => wpM R P .any ops Q' last m k (setAll (Array.replicate ops.size false) is) a' w) (opsAt ops is) a) : (Code.region id ops true).wp P Q' a w := by
  have h1 := wpM_pick hPr (Q' := Q') (m := m) hlast hs k is (Array.replicate ops.size false) a hB hp h
  refine wp_region_any hm ?_
  have h2 := wpAny_of_M hPr (is.length + k) _ a w { w with drawn := w.drawn + 1 } ⟨1, rfl⟩ h1
  rw [← hk, ← hn] at h2
  exact h2
end
end Go.Proofs.YtiabacnmmojfjabGreatDoor.Gen

/- The contracts of blocks in the specification: l6Blocks, PackBlocks, l6Split, UnpackBlocks: code and bytes or blocks, at every argument. What was there stays. -/
namespace Go.Proofs.YtiabacnmmojfjabGreatDoor
open Go.ChangeShapes Go.WideShapes Go.ChangeAt Go.RowKit

set_option maxRecDepth 4000 in
set_option maxHeartbeats 1000000 in
theorem l6Blocks_c (l : List BlkD) (p : Option Addr) (q : Nat) (w : World) (hr : RdL bytC w p q l) (h2 : (blksN l).length ≤ 1000000) :
    Calls Tryz.prog 188 #[.slice p l.length q] w fun e w' => ∃ u, e = .returned u ∧ Own w' w.heap.size u (blksN l) ∧ Below w.heap.size w w' := by
  have HR : Hid (RdL bytC w p q l) := hr
  have H2 : Hid ((blksN l).length ≤ 1000000) := h2
  have hq1 : l.length ≤ q := hr.1
  have hq2 : q ≤ 2 ^ 63 - 1 := hr.2.1
  have O1 := none_own8 w w.heap.size (Nat.le_refl _)
  have BW := alloc_below w (.cells #[] 5)
  clear hr h2
  go_enter Tryz.func188, Tryz.ntmps188
  go_wp2
  go_loopw [3, 4] (fun v i wr => ∃ j : Nat, j ≤ l.length ∧ i = .int .i64 j ∧ Own wr w.heap.size v (blksN (l.take j)) ∧ Below w.heap.size w wr)
    (fun _ i _ => l.length - (intOf i).toNat)
  case atStart => exact ⟨0, Nat.zero_le _, rfl, O1, BW⟩
  case round =>
    clear O1 BW
    obtain ⟨j, hj, rfl, ho, BW⟩ := hrel
    obtain ⟨po, qo, rfl, -⟩ := ho.rd
    by_cases hlt : j < l.length
    · have hI : (j : Int) < (l.length : Int) := by omega
      obtain ⟨b, o, e1, hc⟩ := HR.out.2.2.2 (by omega)
      subst e1
      obtain ⟨a, ha⟩ : ∃ a, l[j]? = some a := ⟨l[j], by simp [hlt]⟩
      obtain ⟨us, hrep, hcell⟩ := hc j a ha
      obtain ⟨pa, qa, rfl, ra⟩ := blk_rep hrep
      have c0 := hcell 0 _ rfl
      rw [show bytC.n = 1 from rfl, Nat.add_zero, Nat.mul_one] at c0
      have hb0 := World.block_lt_of_cell? w _ c0
      replace c0 := cell_keep c0 BW
      have HT : Hid (blksN (l.take (j + 1)) = blksN (l.take j) ++ blkW a) := blksN_take ha
      have HLe : Hid ((blksN (l.take j)).length + (blkW a).length ≤ 1000000) := by have h := blksN_le l (j + 1); rw [HT.out, List.length_append] at h; have := H2.out; show _ ≤ _; omega
      have HBl : Hid ((blkW a).length = a.length + 1) := blkW_len a
      obtain ⟨fs, hfs⟩ : ∃ fs, Hid (fs = blksN (l.take j)) := ⟨_, rfl⟩
      rw [← hfs.out] at ho HT HLe ⊢
      have HRA : Hid (Rd w pa qa a) := ra
      have hM : Hid (((a.length : Int) % 256) = ((mark8 (a.length : Int)).toNat : Int)) := (mark8_nat _).symm
      have g0 := Gen.low_cell (B := w.heap.size) c0 hb0
      have hne := Gen.low_some w.heap.size wr
      clear hc hcell hrep c0 ra
      go_wp2_with fail
      refine Gen.wp_region_pick (Gen.low_pre w.heap.size) [0, 1, 2, 3, 4, 5, 6, 9, 10, 11, 12] 13 2 2 rfl rfl rfl (by kernel_rfl) (by kernel_rfl) (by kernel_rfl) (by kernel_rfl) ?_
      simp only [opsAt, List.getElem?_toArray, List.getElem?_cons_zero, List.getElem?_cons_succ]
      repeat (go_big_quiet_step (fail))
      refine wpQuiet_nil ?_
      clear g0 hne
      refine Gen.wpM_only (i := 7) (by kernel_rfl) ?_
      refine Gen.mOp_make rfl (by go_simp) ?_
      rintro _ ⟨n1, rfl⟩
      have B1 : Below w.heap.size wr (wr.drewN n1) := (Gen.low_pre w.heap.size).drewN _ _
      have hg1 : wr.grownBy (wr.drewN n1) none := grownBy_drewN wr n1 none
      replace ho := ho.other hg1 (fun _ _ e => by cases e)
      replace BW := BW.trans B1
      generalize wr.drewN n1 = V1 at *
      have R1 := rd_one V1 (mark8 (a.length : Int)) 5 _ hM.out
      refine ⟨.slice (some ⟨V1.heap.size, 0, none⟩) 1 1, V1.alloc (.cells #[.int .u8 ((a.length : Int) % 256)] 5), by go_simp, ⟨⟨_, (Below.refl _ _).alloc BW.size _⟩, rfl⟩, ?_⟩
      replace ho := ho.stay (alloc_below V1 (.cells #[.int .u8 ((a.length : Int) % 256)] 5))
      replace BW := BW.alloc BW.size (.cells #[.int .u8 ((a.length : Int) % 256)] 5)
      generalize V1.alloc (.cells #[.int .u8 ((a.length : Int) % 256)] 5) = V2 at *
      generalize V1.heap.size = g1 at *
      clear B1 hg1
      refine Gen.wpM_only (i := 8) (by kernel_rfl) ?_
      refine Gen.mOp_list rfl (by go_simp) (by kernel_rfl) ?_
      rintro _ ⟨n2, rfl⟩
      have B2 : Below w.heap.size V2 (V2.drewN n2) := (Gen.low_pre w.heap.size).drewN _ _
      have hg2 : V2.grownBy (V2.drewN n2) none := grownBy_drewN V2 n2 none
      replace ho := ho.other hg2 (fun _ _ e => by cases e)
      replace R1 := R1.other hg2 (fun _ _ _ e => by cases e)
      replace BW := BW.trans B2
      generalize V2.drewN n2 = V3 at *
      refine wpList_append_rd rfl (.tmp 12) (.tmp 19) rfl w.heap.size _ fs rfl ho _ 1 [mark8 (a.length : Int)] rfl R1 (by have := HLe.out; have := HBl.out; simp; omega) BW.size ?_
      intro v4 w4 ho4 hg4
      have B4 := (Below.refl w.heap.size V3).grown hg4 BW.size (fun k hk => ho.ge k hk)
      refine ⟨rfl, B4, ?_⟩
      replace BW := BW.trans B4
      obtain ⟨p4, q4, rfl, -⟩ := ho4.rd
      clear hg4 ho R1 B2 hg2 B4
      refine Gen.wpM_end (by kernel_rfl) rfl (by kernel_rfl) (by decide) ?_
      rintro _ ⟨n5, rfl⟩
      have B5 : Below w.heap.size w4 (w4.drewN n5) := (Gen.low_pre w.heap.size).drewN _ _
      have hg5 : w4.grownBy (w4.drewN n5) none := grownBy_drewN w4 n5 none
      replace ho4 := ho4.other hg5 (fun _ _ e => by cases e)
      replace BW := BW.trans B5
      generalize w4.drewN n5 = V5 at *
      clear hg5 B5
      have RA := HRA.out.keep BW
      simp only [List.drop_succ_cons, List.drop_zero]
      have HE : Hid (blksN (l.take (j + 1)) = (fs ++ [mark8 (a.length : Int)]) ++ a) := by rw [HT.out]; show _ = _; simp [blkW]
      have HL : Hid ((fs ++ [mark8 (a.length : Int)]).length + a.length ≤ 1000000) := by have := HLe.out; have := HBl.out; show _ ≤ _; simp; omega
      generalize fs ++ [mark8 (a.length : Int)] = gs at *
      go_wp2_with (at_builtin; go_loud (refine wpList_append_rd rfl (.tmp 20) (.tmp 24) rfl w.heap.size _ gs rfl ho4 pa qa a rfl RA (by have := HL.out; omega) BW.size ?_); intro v6 w6 ho6 hg6)
      have B6 := BW.grown hg6 BW.size (fun k hk => ho4.ge k hk)
      rw [← HE.out] at ho6
      clear ho4 hg6 RA BW
      go_roundw
      case rel => exact ⟨j + 1, by omega, by go_num, ho6, B6⟩
      case measure => simp [intOf]; omega
    · have e : j = l.length := by omega
      subst e
      rw [List.take_length] at ho ⊢
      go_wp2
      go_ret
      exact ⟨_, rfl, ho, BW⟩

theorem blksN_bound : ∀ (l : List BlkD), (∀ b ∈ l, b.length ≤ 120) → (blksN l).length ≤ 121 * l.length
  | [], _ => by simp [blksN]
  | a :: m, h => by
    rw [blksN_cons, List.length_append, blkW_len, List.length_cons]
    have h2 := h a List.mem_cons_self
    have h3 := blksN_bound m fun b hb => h b (List.mem_cons_of_mem _ hb)
    omega
theorem pbC_many {l : List BlkD} (h : ¬ l.length ≤ 8) : pbC l = 2 := by rw [pbC, if_neg (fun k => h k.1)]
theorem pbC_big {l : List BlkD} (h : okBl l = false) : pbC l = 2 := by rw [pbC, if_neg (fun k => by rw [h] at k; exact absurd k.2.1 (by decide))]
theorem pbC_long {l : List BlkD} (h : ¬ (blksN l).length ≤ 160) : pbC l = 2 := by rw [pbC, if_neg (fun k => h k.2.2)]
theorem pbL_none {l : List BlkD} (h : pbC l = 2) : pbL l = [] := by rw [pbL, if_neg (by rw [h]; decide)]


theorem none_ownB (w : World) (B : Nat) (h : B ≤ w.heap.size) : OwnL 22 bytC (w.alloc (.cells #[] 22)) B (.slice (some ⟨w.heap.size, 0, none⟩) 0 0) [] [] [] :=
  ⟨World.ownsRow_lit (base := B) (e := 22) (size := 1) w #[] 0 h (by unfold maxLen; decide) (by simp), ⟨rfl, rfl⟩, by simp [Value.ownBlock]⟩
theorem nil_ownB (w : World) (B : Nat) : OwnL 22 bytC w B (.slice none 0 0) [] [] [] := ⟨World.ownsRow_nil _ _ _ _, ⟨rfl, rfl⟩, by simp [Value.ownBlock]⟩
set_option maxRecDepth 4000 in
set_option maxHeartbeats 2000000 in
theorem l6Split_c (data : List UInt8) (p : Option Addr) (q : Nat) (w : World) (hr : Rd w p q data) (hd : data.length ≤ 1000) :
    Calls Tryz.prog 125 #[.slice p data.length q] w fun e w' => ∃ v, e = .returned (.tuple #[v, .bool (splitR data 0 []).isSome]) ∧ (∃ xs fp, OwnL 22 bytC w' w.heap.size v ((splitR data 0 []).getD []) xs fp) ∧ Below w.heap.size w w' := by
  have HR : Hid (Rd w p q data) := hr
  have hq1 : data.length ≤ q := hr.1
  have hq2 : q ≤ 2 ^ 63 - 1 := hr.2.1
  have hdI : (data.length : Int) ≤ 1000 := by omega
  have O1 := none_ownB w w.heap.size (Nat.le_refl _)
  have BW := alloc_below w (.cells #[] 22)
  obtain ⟨fin, HF⟩ : ∃ fin, Hid (fin = splitR data 0 []) := ⟨_, rfl⟩
  rw [← HF.out]
  clear hr
  go_enter Tryz.func125, Tryz.ntmps125
  go_wp2_with fail
  go_loopw [4, 5] (fun v i wr => ∃ (at_ : Nat) (out : List BlkD) (xs : List Value) (fp : List Nat), at_ ≤ data.length ∧ i = .int .i64 at_ ∧ OwnL 22 bytC wr w.heap.size v out xs fp ∧ out.length ≤ 8 ∧ fin = splitR data at_ out ∧ Below w.heap.size w wr)
    (fun _ i _ => data.length - (intOf i).toNat)
  case atStart => exact ⟨0, [], [], [], Nat.zero_le _, rfl, O1, by decide, HF.out, BW⟩
  case round =>
    clear O1 BW HF
    obtain ⟨at_, out, xs, fp, hat, rfl, ho, hol, hfin, BW⟩ := hrel
    have HFN : Hid (fin = splitR data at_ out) := hfin
    clear hfin
    by_cases hlt : at_ < data.length
    · have hI : (at_ : Int) < (data.length : Int) := by omega
      obtain ⟨b, o, e1, hcd⟩ := (HR.out.keep BW).2.2.2 (by omega)
      subst e1
      have hcy : wr.cell? ⟨b, o + at_, none⟩ = some (.int .u8 ((numAt data at_ : Nat) : Int)) := hcd at_ hlt
      have hnl : numAt data at_ < 256 := UInt8.toNat_lt _
      have hnI : ((numAt data at_ : Nat) : Int) < 256 := by omega
      obtain ⟨po, qo, rfl, hord⟩ := ho.rd
      have hqo1 : out.length ≤ qo := hord.1
      have hqo2 : qo ≤ 2 ^ 63 - 1 := hord.2.1
      by_cases h2 : 120 < numAt data at_ ∨ 8 ≤ out.length ∨ data.length < at_ + 1 + numAt data at_
      · have HE : Hid (fin = none) := by show _ = _; rw [HFN.out, splitR_none hlt h2]
        generalize numAt data at_ = n at *
        clear hcd HFN
        by_cases h3 : 120 < n
        · have h3I : 120 < (n : Int) := by omega
          go_wp2_with fail
          exact bodyPost_ret (v := .tuple #[.slice none 0 0, .bool false]) (by simp [results, Tryz.results125, go_sem]) rfl ⟨_, by rw [HE.out]; rfl, ⟨_, _, by rw [HE.out]; exact nil_ownB _ _⟩, BW⟩
        · have h3I : ¬ (120 < (n : Int)) := by omega
          by_cases h4 : 8 ≤ out.length
          · have h4I : 8 ≤ (out.length : Int) := by omega
            go_wp2_with fail
            exact bodyPost_ret (v := .tuple #[.slice none 0 0, .bool false]) (by simp [results, Tryz.results125, go_sem]) rfl ⟨_, by rw [HE.out]; rfl, ⟨_, _, by rw [HE.out]; exact nil_ownB _ _⟩, BW⟩
          · have h4I : ¬ (8 ≤ (out.length : Int)) := by omega
            have h5I : (data.length : Int) < (at_ : Int) + 1 + (n : Int) := by omega
            go_wp2_with fail
            exact bodyPost_ret (v := .tuple #[.slice none 0 0, .bool false]) (by simp [results, Tryz.results125, go_sem]) rfl ⟨_, by rw [HE.out]; rfl, ⟨_, _, by rw [HE.out]; exact nil_ownB _ _⟩, BW⟩
      · have h3I : ¬ (120 < ((numAt data at_ : Nat) : Int)) := by omega
        have h4I : ¬ (8 ≤ (out.length : Int)) := by omega
        have h5I : ¬ ((data.length : Int) < (at_ : Int) + 1 + ((numAt data at_ : Nat) : Int)) := by omega
        have HN : Hid (fin = splitR data (at_ + 1 + numAt data at_) (out ++ [blkAt data at_])) := by show _ = _; rw [HFN.out, splitR_next hlt h2]
        have hcut2 := (HR.out.keep BW).cut (at_ + 1) (numAt data at_) (q - (at_ + 1)) (by omega) (by omega) (by have := HR.out.2.1; omega)
        have hbl : Hid ((blkAt data at_).length = numAt data at_) := by show _ = _; unfold blkAt; simp; omega
        have hol2 : Hid ((out ++ [blkAt data at_]).length ≤ 8) := by show _ ≤ _; rw [List.length_append, List.length_singleton]; omega
        have hnx : Hid (at_ + 1 + numAt data at_ ≤ data.length) := by show _ ≤ _; omega
        have hrd2 : Rd wr (if q = at_ + 1 then some ⟨b, o, none⟩ else some ⟨b, o + (at_ + 1), none⟩) (q - (at_ + 1)) (blkAt data at_) := by
          split
          · rename_i hq
            have hn0 : numAt data at_ = 0 := by omega
            unfold blkAt
            rw [hn0, List.take_zero]
            exact ⟨by simp, by unfold maxLen; omega, fun e => by simp at e, fun h => by simp at h⟩
          · exact hcut2
        have KC : Hid (∀ (pX : Option Addr) (cX : Nat), pX = (if q = at_ + 1 then some ⟨b, o, none⟩ else some ⟨b, o + (at_ + 1), none⟩) → cX = q - (at_ + 1) → Calls Tryz.prog 66 #[.slice pX (numAt data at_) cX] wr fun e w' => ∃ u, e = .returned u ∧ Own w' wr.heap.size u (blkAt data at_) ∧ Below wr.heap.size wr w') := fun pX cX h1 h2 => by
          subst h1 h2
          have h := l1Copy_c (if q = at_ + 1 then some ⟨b, o, none⟩ else some ⟨b, o + (at_ + 1), none⟩) (q - (at_ + 1)) _ wr hrd2 (by rw [hbl.out]; omega)
          rw [hbl.out] at h
          exact h
        clear hrd2
        generalize blkAt data at_ = body at *
        generalize numAt data at_ = n at *
        clear hcd hcut2 h2 HFN hnl
        go_wp2_with fail
        case' inl =>
          have hq : q = at_ + 1 := by assumption
          subst hq
          refine (KC.out _ _ (by rw [if_pos rfl]) (by omega)).mono ?_
        case' inr => refine (KC.out _ _ (by rw [if_neg (by assumption)]) rfl).mono ?_
        all_goals
          rintro e w3 ⟨u3, rfl, k3, hb3⟩
          obtain ⟨pv, qv, rfl, -⟩ := k3.rd
          rw [hbl.out] at k3 ⊢
          have hb4 := alloc_below w3 (.cells #[.slice pv n qv] 22)
          have hnew : ∀ j u, [Value.slice pv n qv][j]? = some u → (w3.alloc (.cells #[.slice pv n qv] 22)).cell? ((⟨w3.heap.size, 0, none⟩ : Addr).add j) = some u := fun j u hj => (Arr.new w3 [.slice pv n qv] 22).cells j u hj
          have k5 := k3.stay hb4
          have hb5 := Below.step hb3 hb4
          have ho5 := ho.stay hb5
          have BW5 := Below.step BW hb5
          have hrow5 : Hid ((w3.alloc (.cells #[.slice pv n qv] 22)).ownsRow w.heap.size 22 1 (.slice po out.length qo) out.length xs) := ho5.row
          obtain ⟨i0, hi, hz0, hz1, hz2⟩ := info_parts infoBlk
          go_wp2_with (at_builtin; go_loud (refine wpList_append_lies _ rfl (.tmp 33) (.tmp 43) 144 rfl w.heap.size 22 i0 (.slice none 0 0) 1 24 Tryz.underlying144 hi hz0 hz1 hz2 rfl (by decide) (.slice po out.length qo) out.length xs rfl hrow5.out ⟨w3.heap.size, 0, none⟩ 1 1 [.slice pv n qv] rfl rfl hnew (by intro u hu; simp at hu; subst hu; rfl) (by decide) (by unfold maxLen; omega) (by omega) BW5.size (w3.alloc (.cells #[.slice pv n qv] 22)).heap.size rfl ?_); intro g6 c6 w6 hown6 hgrow6 hat6 hlt6)
          have hlow : Hid (∀ j, (Value.slice pv n qv).ownBlock = some j → wr.heap.size ≤ j) := fun j hj => k5.ge j hj
          have hinsO : Hid (∀ j, j ∈ (Value.slice po out.length qo).ownBlock.toList ++ fp → j < wr.heap.size) := fun j hj => (ho.ins j hj).2
          have ka := blk_own_mk (a := body) (k5.lower (B' := w.heap.size) BW.size)
          have OP := ho5.push ka (fun j hj hj2 => by
            have h1 := hlow.out j (mem_opt.1 hj)
            have h2 := hinsO.out j hj2
            omega) (k := out.length + 1) (v' := .slice (some ⟨g6, 0, none⟩) (out.length + 1) c6) (g := g6) hown6 (by simp) hgrow6 rfl hat6
          have BW6 := BW5.grown hgrow6 BW5.size (fun k hk => (ho5.ins k (List.mem_append_left _ (mem_opt.2 hk))).1)
          clear ho ho5 k3 k5 hown6 hgrow6 hat6 hnew hrow5 ka BW5 BW hb3 hb4 hb5 hcy
          go_wp2_with fail
          go_roundw
          case rel => first | exact ⟨at_ + 1 + n, out ++ [body], _, _, hnx.out, by go_num, OP, hol2.out, HN.out, BW6⟩ | ((repeat apply Exists.intro); refine ⟨?_, rfl⟩; exact ⟨at_ + 1 + n, out ++ [body], _, _, hnx.out, by go_num, OP, hol2.out, HN.out, BW6⟩)
          case measure => have := hnx.out; simp [intOf]; omega
    · have e : at_ = data.length := by omega
      subst e
      have HE : Hid (fin = some out) := by show _ = _; rw [HFN.out, splitR_end (by omega)]
      obtain ⟨po, qo, rfl, -⟩ := ho.rd
      go_wp2_with fail
      exact bodyPost_ret (v := .tuple #[.slice po out.length qo, .bool true]) (by simp [results, Tryz.results125, go_sem]) rfl ⟨_, by rw [HE.out]; rfl, ⟨_, _, by rw [HE.out]; exact ho⟩, BW⟩

theorem ubC_many {data : List UInt8} (h : ¬ data.length ≤ 160) : ubC data = 2 ∧ ubL data = [] := by rw [ubC, ubL, if_neg h, if_neg h]; exact ⟨rfl, rfl⟩
theorem ubC_none {data : List UInt8} (h : data.length ≤ 160) (h2 : splitR data 0 [] = none) : ubC data = 5 ∧ ubL data = [] := by rw [ubC, ubL, if_pos h, if_pos h, h2]; exact ⟨rfl, rfl⟩
theorem ubC_some {data : List UInt8} {r : List BlkD} (h : data.length ≤ 160) (h2 : splitR data 0 [] = some r) : ubC data = 0 ∧ ubL data = r := by rw [ubC, ubL, if_pos h, if_pos h, h2]; exact ⟨rfl, rfl⟩

theorem blksN_sum : ∀ (l : List BlkD), sumB l ≤ (blksN l).length
  | [] => by simp [sumB]
  | a :: l => by
    have h := blksN_sum l
    rw [blksN_cons, List.length_append, blkW_len]
    simp only [sumB, List.map_cons, List.sum_cons] at h ⊢
    omega
theorem ubL_sum (data : List UInt8) : sumB (ubL data) ≤ 1048576 := by
  unfold ubL
  split
  · rename_i h
    cases hs : splitR data 0 [] with
    | none => simp [sumB]
    | some r =>
      have h2 := (pack_split data data.length 0 [] r (by omega) (Nat.zero_le _) (by simp [blksN]) (by decide) (fun b hb => by cases hb) hs).1
      have h3 := blksN_sum r
      rw [h2] at h3
      simp only [Option.getD_some]
      omega
  · simp [sumB]
end Go.Proofs.YtiabacnmmojfjabGreatDoor

