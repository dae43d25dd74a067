/- Regions that draw their order, in which quiet operations are taken first, whichever they are, and two operations that make memory may come in either order ahead of a chain at the end. Beside Mix.lean. No program in it. -/
import Derived.Test.YtdemfbbjdnjolaaDoorMix
import Derived.Test.YtdemfbbjdnjolaaDoorJoint8
import Derived.Test.YtdemfbbjdnjolaaDoorCod
import Derived.Test.YtdemfbbjdnjolaaDoorRows
import Derived.Test.YtdemfbbjdnjolaaDoorJoint6
import Derived.ProofKit
import Derived.OpenShut
import Derived.Deep.QuietTactic
import Derived.BigQuiet
import Derived.Test.YtdemfbbjdnjolaaDoorJoint7
import Derived.Test.YtdemfbbjdnjolaaDoorCopy
import Derived.Deep.AppendLies
import Derived.Test.YtdemfbbjdnjolaaDoorJoint5
import Derived.Test.YtdemfbbjdnjolaaDoorArr
import Derived.Laws.AppendOwnNone
namespace Go.Proofs.YtdemfbbjdnjolaaDoor
open Go Go.RowKit

section
variable {P : Program} {ops : Array Oper} {md : Region.Mode} {Q' : Exit → Act → World → Prop} {last m : Nat}

def closedB (md : Region.Mode) (ops : Array Oper) (L : Array Bool) : Bool :=
  (List.range ops.size).all fun j => match ops[j]? with
    | some o => !(L.getD j false) || o.after.toList.all (fun e => !(Region.binds md e) || L.getD e.on false)
    | none => true
theorem closedB_spec {L : Array Bool} (h : closedB md ops L = true) : Closed md ops L := by
  intro j o ho hj e he hb
  have hjs : j < ops.size := (Array.getElem?_eq_some_iff.1 ho).1
  have h1 := (List.all_eq_true.1 h) j (List.mem_range.2 hjs)
  simp only [ho, hj, Bool.not_true, Bool.false_or, List.all_eq_true] at h1
  have h2 := h1 e (by simpa using he)
  simpa [hb] using h2

def okSeq (md : Region.Mode) (ops : Array Oper) (last : Nat) : Array Bool → List Nat → Bool
  | _, [] => true
  | L, i :: is => decide (i < last) && (closedB md ops L && ((Region.ready md ops L).contains i && (Region.free md ops L i && okSeq md ops last (L.setIfInBounds i true) is)))
def setAll : Array Bool → List Nat → Array Bool
  | L, [] => L
  | L, i :: is => setAll (L.setIfInBounds i true) is
def opsAt (ops : Array Oper) : List Nat → List Oper
  | [] => []
  | i :: is => match ops[i]? with
    | some o => o :: opsAt ops is
    | none => opsAt ops is

theorem wpM_pick (hlast : waitsT md ops last = true) (hs : Region.noSelect ops = true) {V : World} (fuel : Nat) : ∀ (is : List Nat) (L : Array Bool) (a : Act), okSeq md ops last L is = true → (opsAt ops is).all plainB = true →
    wpQuiet P ops (fun w' => ∃ s : HW V, w' = s.w) (fun a' => wpM P md ops Q' last m fuel (setAll L is) a' V) (opsAt ops is) a → wpM P md ops Q' last m (is.length + fuel) L a V
  | [], L, a, _, _, h => by simpa [opsAt, wpQuiet, setAll] using h
  | i :: is, L, a, hok, hp, h => by
    simp only [okSeq, Bool.and_eq_true, decide_eq_true_eq] at hok
    obtain ⟨hil, hcl, hr, hf, hok'⟩ := hok
    have hr' : i ∈ Region.ready md ops L := by simpa using hr
    obtain ⟨-, o, h0, -⟩ := mem_ready.1 hr'
    have ho : opsAt ops (i :: is) = o :: opsAt ops is := by simp only [opsAt, h0]
    rw [ho] at h hp
    simp only [List.all_cons, Bool.and_eq_true] at hp
    have hst : qOp P ops (fun w' => ∃ s : HW V, w' = s.w) i (wpQuiet P ops (fun w' => ∃ s : HW V, w' = s.w) (fun a' => wpM P md ops Q' last m fuel (setAll L (i :: is)) a' V) (opsAt ops is)) a := by unfold qOp; simp only [h0]; exact h
    obtain ⟨v, hy, hK⟩ := yieldsIn_of_qOp h0 hst
    have hrest := wpM_pick hlast hs fuel is (L.setIfInBounds i true) (a.put o.dst v) hok' hp.2 hK
    rw [show (i :: is).length + fuel = (is.length + fuel) + 1 by simp; omega]
    refine wpM_first hlast h0 hil (Region.noSelect_spec hs) (is.length + fuel) _ a V (closedB_spec hcl) (Region.free_spec h0 hf) hr' ?_ hrest
    rcases hy with ⟨hw, hv⟩ | ⟨hw, rfl⟩
    · refine .inl ⟨hw, fun w hw' => ?_⟩
      have h3 := hv w hw'
      unfold Oper.quietAt at h3
      cases hrn : (execOp a.eval o).run P w with
      | ok n w1 =>
        obtain ⟨u, rfl⟩ := plainB_value hp.1 a.eval w n w1 hrn
        rw [hrn] at h3
        obtain ⟨e1, e2⟩ := h3
        rw [e1, e2]
      | halt x w1 => rw [hrn] at h3; exact h3.elim
    · exact .inr ⟨hw, rfl⟩

/-- Just one can come up, or just these two. -/
theorem wpM_only {L : Array Bool} {i fuel : Nat} {a : Act} {V : World} (hr : Region.ready md ops L = [i]) (h : mOp P ops i (wpM P md ops Q' last m fuel (L.setIfInBounds i true)) a V) : wpM P md ops Q' last m (fuel + 1) L a V :=
  ⟨by rw [hr]; simp, fun j hj => by rw [hr] at hj; rw [List.mem_singleton.1 hj]; exact h⟩
theorem wpM_two {L : Array Bool} {i j fuel : Nat} {a : Act} {V : World} (hr : Region.ready md ops L = [i, j]) (h : mOp P ops i (wpM P md ops Q' last m fuel (L.setIfInBounds i true)) a V) (h2 : mOp P ops j (wpM P md ops Q' last m fuel (L.setIfInBounds j true)) a V) : wpM P md ops Q' last m (fuel + 1) L a V :=
  ⟨by rw [hr]; simp, fun k hk => by
    rw [hr] at hk
    rcases List.mem_cons.1 hk with rfl | h3
    · exact h
    · rw [List.mem_singleton.1 h3]; exact h2⟩
theorem mOp_call {k : Nat} {o : Oper} {a : Act} {V : World} {K : Act → World → Prop} (h0 : ops[k]? = some o) (hw : Region.wanted o (yielded ops a.tmps) = true)
    (f : FuncId) (args args' : Array Value) (hr : ∀ w, (execOp a.eval o).run P w = .ok (.enter f args) w) (he : args = args')
    (h : ∀ w, (∃ s : HW V, w = s.w) → Calls P f args' w (fun e w' => ∃ v, e = .returned v ∧ (∃ s : HW w, w' = s.w) ∧ K (a.put o.dst v) w')) : mOp P ops k K a V := by
  subst he
  unfold mOp
  simp only [h0, hw, if_true]
  exact .inr fun w hw' => .inl ⟨f, args, hr w, h w hw'⟩
theorem mOp_make {k : Nat} {o : Oper} {a : Act} {V : World} {K : Act → World → Prop} (h0 : ops[k]? = some o) (hw : Region.wanted o (yielded ops a.tmps) = true)
    (h : ∀ w, (∃ s : HW V, w = s.w) → ∃ v w', (execOp a.eval o).run P w = .ok (.value v) w' ∧ (∃ s : HW w, w' = s.w) ∧ K (a.put o.dst v) w') : mOp P ops k K a V := by
  unfold mOp
  simp only [h0, hw, if_true]
  exact .inr fun w hw' => .inr (h w hw')
/-- It is not wanted (its guard says no). -/
theorem mOp_skip {k : Nat} {o : Oper} {a : Act} {V : World} {K : Act → World → Prop} (h0 : ops[k]? = some o) (hw : Region.wanted o (yielded ops a.tmps) = false) (h : K (a.put o.dst undef) V) : mOp P ops k K a V := by
  unfold mOp
  simp only [h0, hw, Bool.false_eq_true, if_false]
  exact h
/-- In the midst of a region: these quiet operations next. -/
theorem wpM_more {V : World} {L : Array Bool} {a : Act} (is : List Nat) (n fuel : Nat) (hn : n = is.length + fuel) (hlast : waitsT md ops last = true) (hs : Region.noSelect ops = true) (hB : okSeq md ops last L is = true) (hp : (opsAt ops is).all plainB = true)
    (h : wpQuiet P ops (fun w' => ∃ s : HW V, w' = s.w) (fun a' => wpM P md ops Q' last m fuel (setAll L is) a' V) (opsAt ops is) a) : wpM P md ops Q' last m n L a V := by
  subst hn
  exact wpM_pick hlast hs fuel is L a hB hp h
theorem wpM_end {L : Array Bool} {a : Act} {V : World} (hL : L = upTo ops.size last) (hm : last + m = ops.size) (hB : (List.range' last m).all (fun i => okR md ops i && okOne md ops i) = true) (hp : 0 < m) (h : ∀ w, (∃ s : HW V, w = s.w) → wpList P ops Q' (ops.toList.drop last) a w) : wpM P md ops Q' last m 0 L a V := by
  subst hL
  exact wpM_tail hm hB hp h
/-- The region: these quiet operations first, then k more ahead of the chain of m. -/
theorem wp_region_pick {id : Nat} {a : Act} {w : World} (is : List Nat) (last k m : Nat) (hk : last = is.length + k) (hn : ops.size = last + m) (hm : P.follows .mixedOrders = true) (hs : Region.noSelect ops = true) (hlast : waitsT .any ops last = true) (hB : okSeq .any ops last (Array.replicate ops.size false) is = true) (hp : (opsAt ops is).all plainB = true)
    (h : wpQuiet P ops (fun w' => ∃ s : HW w, w' = s.w) (fun a' => wpM P .any ops Q' last m k (setAll (Array.replicate ops.size false) is) a' w) (opsAt ops is) a) : (Code.region id ops true).wp P Q' a w := by
  have h1 := wpM_pick (Q' := Q') (m := m) hlast hs k is (Array.replicate ops.size false) a hB hp h
  refine wp_region_any hm ?_
  have h2 := wpAny_of_M (is.length + k) _ a w { w with drawn := w.drawn + 1 } ⟨⟨w.drew, (Below.refl _ _).drew⟩, rfl⟩ h1
  rw [← hk, ← hn] at h2
  exact h2
/-- A slice that is made, by the walk's own laws (its guard said yes). -/
theorem wpList_nil_of {Q : Exit → Act → World → Prop} {a : Act} {w : World} (h : Q .normal a w) : wpList P ops Q [] a w := by simpa [wpList] using h
def makesS (o : Oper) : Bool := match o.op with
  | .makeSlice .. => true
  | _ => false
theorem makesS_value {o : Oper} (hp : makesS o = true) (ρ : Operand → Value) (w : World) (n : Next) (w' : World) (h : (execOp ρ o).run P w = .ok n w') : ∃ u, n = .value u := by
  unfold makesS at hp
  unfold execOp at h
  split at hp <;> rename_i ho <;> simp only [ho] at h
  · exact v_plain _ w n w' h
  · cases hp
theorem mOp_mk {k : Nat} {o : Oper} {a : Act} {V : World} {K : Act → World → Prop} (h0 : ops[k]? = some o) (hw : Region.wanted o (yielded ops a.tmps) = true) (hk : makesS o = true)
    (h : ∀ w, (∃ s : HW V, w = s.w) → wpList P ops (fun e a' w' => e = .normal ∧ Below w.heap.size w w' ∧ K a' w') [{ o with guard := none }] a w) : mOp P ops k K a V := by
  unfold mOp
  simp only [h0, hw, if_true]
  refine .inr fun w hw' => .inr ?_
  have h1 := h w hw'
  unfold wpList at h1
  simp only [show ∀ f, Region.wanted { o with guard := none } f = true from fun _ => rfl, if_true] at h1
  rcases h1 with h1 | ⟨-, a1, w1, h1, -⟩
  · unfold Oper.wp at h1
    rw [show execOp a.eval { o with guard := none } = execOp a.eval o from rfl] at h1
    cases hrn : (execOp a.eval o).run P w with
    | ok n w1 =>
      obtain ⟨u, rfl⟩ := makesS_value hk a.eval w n w1 hrn
      rw [hrn] at h1
      simp only [Oper.upon, wpList] at h1
      exact ⟨u, w1, rfl, ⟨⟨w1, h1.2.1⟩, rfl⟩, h1.2.2⟩
    | halt x w1 =>
      rw [hrn] at h1
      cases x <;> simp [Oper.upon] at h1
  · cases h1
end
end Go.Proofs.YtdemfbbjdnjolaaDoor

/- The contracts of chapter 7's functions in the specification, at every argument: code and bytes. What was there stays. -/
namespace Go.Proofs.YtdemfbbjdnjolaaDoor
open Go.ChangeShapes Go.WideShapes Go.ChangeAt Go.RowKit

theorem rd_nil (w : World) : Rd w none 0 [] := ⟨Nat.le_refl _, by unfold maxLen; decide, fun _ => rfl, fun hp => by simp at hp⟩
set_option maxRecDepth 4000 in
theorem l7Secret_c (p : Option Addr) (q : Nat) (s : List UInt8) (w : World) : Calls Tryd.prog 39 #[.slice p s.length q] w fun e w' => e = .returned (.bool (is32 s)) ∧ w' = w := by
  by_cases h : s.length = 32
  · have d1 : ((s.length : Int) == 32) = true := by rw [beq_iff_eq]; omega
    rw [show is32 s = true by simp [is32, h]]
    clear h
    go_enter Tryd.func39, Tryd.ntmps39
    go_wp2
    go_ret
    exact ⟨rfl, rfl⟩
  · have d1 : ((s.length : Int) == 32) = false := by rw [beq_eq_false_iff_ne]; omega
    rw [show is32 s = false by simp [is32, h]]
    clear h
    go_enter Tryd.func39, Tryd.ntmps39
    go_wp2
    go_ret
    exact ⟨rfl, rfl⟩







end Go.Proofs.YtdemfbbjdnjolaaDoor

/- The contracts of the draws: they answer numbers within their bounds, and move the source's count on. -/
namespace Go.Proofs.YtdemfbbjdnjolaaDoor
open Go.ChangeShapes Go.WideShapes Go.ChangeAt Go.RowKit



theorem Src.other {w w' : World} {b : Nat} {p : Option Addr} {q : Nat} {cs : List UInt8} {n : Int} {row : Option Nat} (h : Src w b p q cs n) (hg : w.grownBy w' row) (hne : ∀ k, row = some k → b < k) : Src w' b p q cs n :=
  ⟨h.loc.other hg (fun e => by have := hne b e; omega), h.rd.other hg (fun hp y hy e => by have h1 := h.apart hp y hy; have h2 := hne _ e; omega), h.apart⟩




theorem below_of_grown {w w1 w2 : World} (h : Below w.heap.size w w1) (hg : w1.grownBy w2 (some w.heap.size)) : Below w.heap.size w w2 :=
  h.grown hg h.size (fun k hk => by simp at hk; omega)


end Go.Proofs.YtdemfbbjdnjolaaDoor

/- The contracts of HexOf in the specification, and of what it calls. -/
namespace Go.Proofs.YtdemfbbjdnjolaaDoor
open Go.ChangeShapes Go.WideShapes Go.ChangeAt Go.RowKit

def hexCode (bs : List UInt8) : Int := if bs.length ≤ 600 then 0 else 2
def hexText (bs : List UInt8) : List UInt8 := if bs.length ≤ 600 then hexL bs else []

end Go.Proofs.YtdemfbbjdnjolaaDoor

/- The contracts of the draws of bytes and of texts: some bytes, at most so many; some text. -/
namespace Go.Proofs.YtdemfbbjdnjolaaDoor
open Go.ChangeShapes Go.WideShapes Go.ChangeAt Go.RowKit

/-- Behind a call that writes, of what lay there, block b alone: a step that writes new blocks alone. -/
theorem grownBy_step {w x y : World} {b : Nat} {row : Option Nat} (h : w.grownBy x (some b)) (k : x.grownBy y row) (hr : ∀ j, row = some j → w.heap.size ≤ j ∨ j = b) : w.grownBy y (some b) :=
  ⟨k.os.trans h.os, k.tape.trans h.tape, k.output.trans h.output, Nat.le_trans h.size k.size, fun i hi hne =>
    (k.block i (Nat.lt_of_lt_of_le hi h.size) (fun e => by
      rcases hr i e.symm with h1 | h1
      · omega
      · exact hne (by rw [h1]))).trans (h.block i hi hne)⟩




end Go.Proofs.YtdemfbbjdnjolaaDoor

/- The contract of spec.DrawMixRound: some numbers, a word, a key; and a law of our own: append of numbers that can be read to a row of one's own. -/
namespace Go.Proofs.YtdemfbbjdnjolaaDoor
open Go.ChangeShapes Go.WideShapes Go.ChangeAt Go.RowKit

theorem wpList_append_rdI {w : World} {ops : Array Oper} {rest : List Oper} {o : Oper} {a : Act} {Q : Exit → Act → World → Prop} (hgd : o.guard = none) (s x : Operand)
    (ho : o.op = .call { callee := .builtin .append, args := #[s, x], argTypes := #[117, 117] })
    (B : Nat) (v : Value) (xs : List Int) (hs : a.eval s = v) (hown : OwnI w B v xs) (p : Option Addr) (q : Nat) (bs : List Int) (hx : a.eval x = .slice p bs.length q) (hr : RdI w p q bs)
    (hl : xs.length + bs.length ≤ 100000000) (hB : B ≤ w.heap.size)
    (h : ∀ v' w', OwnI w' B v' (xs ++ bs) → w.grownBy w' v.ownBlock → wpList Tryd.prog ops Q rest (a.put o.dst v') w') : wpList Tryd.prog ops Q (o :: rest) a w := by
  obtain ⟨i0, hi, hz0, hz1, hz2⟩ := info_parts info64
  obtain ⟨h1, h2, h3, h4⟩ := hr
  cases p with
  | none =>
    have hq := h3 rfl
    subst hq
    have hb : bs = [] := List.eq_nil_of_length_eq_zero (by omega)
    subst hb
    refine wpList_append_own_none hgd s x _ ho B _ i0 1 Tryd.underlying117 hi v xs.length _ hs hown hx ?_
    exact h v w (by rw [List.append_nil]; exact hown) (World.grownBy.refl _ _)
  | some ad =>
    refine wpList_append_own _ hgd s x _ ho B 2 i0 (.int .i64 0) 1 8 Tryd.underlying117 hi hz0 hz1 hz2 rfl (by decide) v xs.length (xs.map i64z) hs hown ad bs.length q (bs.map i64z) hx (by simp) ?_ (by intro u hu; obtain ⟨n, -, rfl⟩ := List.mem_map.1 hu; rfl) (by unfold maxLen; omega) (by omega) hB ?_
    · intro j u hu
      have hj : j < bs.length := by have := (List.getElem?_eq_some_iff.1 hu).1; simpa using this
      obtain ⟨b, off, e, hc⟩ := h4 (by omega)
      simp at e
      subst e
      rw [addr_add, hc j hj, ← hu, i64z_at hj]
    · intro v' w' ho' hg' _
      refine h v' w' ?_ hg'
      unfold OwnI
      rw [List.length_append, List.map_append]
      exact ho'
theorem rdI_one (w : World) (b : Int) (t : TypeId) : RdI (w.alloc (.cells #[.int .i64 b] t)) (some ⟨w.heap.size, 0, none⟩) 1 [b] := by
  refine ⟨by simp, by unfold maxLen; decide, fun e => by simp at e, fun _ => ⟨w.heap.size, 0, rfl, fun i hi => ?_⟩⟩
  have : i = 0 := by simp at hi; omega
  subst this
  rw [World.cell?_alloc_new]
  rfl

end Go.Proofs.YtdemfbbjdnjolaaDoor

