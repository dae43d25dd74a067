/- Regions that draw their order, in which quiet operations are taken first, whichever they are, and two operations that make memory may come in either order ahead of a chain at the end. Beside Mix.lean. No program in it. -/
import Derived.Test.YtiabacnmmojfjabGreatDoorMix
import Derived.Test.YtiabacnmmojfjabGreatDoorJoint1
import Derived.Test.YtiabacnmmojfjabGreatDoorRows
import Derived.KernelRfl
import Derived.Test.YtiabacnmmojfjabGreatDoorJoint5
import Derived.Test.YtiabacnmmojfjabGreatDoorJoint7
import Derived.Test.YtiabacnmmojfjabGreatDoorJoint3
namespace Go.Proofs.YtiabacnmmojfjabGreatDoor
open Go Go.RowKit

section
variable {P : Program} {ops : Array Oper} {md : Region.Mode} {Q' : Exit → Act → World → Prop} {last m : Nat}

def closedB (md : Region.Mode) (ops : Array Oper) (L : Array Bool) : Bool :=
  (List.range ops.size).all fun j => match ops[j]? with
    | some o => !(L.getD j false) || o.after.toList.all (fun e => !(Region.binds md e) || L.getD e.on false)
    | none => true
theorem closedB_spec {L : Array Bool} (h : closedB md ops L = true) : Closed md ops L := by
  intro j o ho hj e he hb
  have hjs : j < ops.size := (Array.getElem?_eq_some_iff.1 ho).1
  have h1 := (List.all_eq_true.1 h) j (List.mem_range.2 hjs)
  simp only [ho, hj, Bool.not_true, Bool.false_or, List.all_eq_true] at h1
  have h2 := h1 e (by simpa using he)
  simpa [hb] using h2

def okSeq (md : Region.Mode) (ops : Array Oper) (last : Nat) : Array Bool → List Nat → Bool
  | _, [] => true
  | L, i :: is => decide (i < last) && (closedB md ops L && ((Region.ready md ops L).contains i && (Region.free md ops L i && okSeq md ops last (L.setIfInBounds i true) is)))
def setAll : Array Bool → List Nat → Array Bool
  | L, [] => L
  | L, i :: is => setAll (L.setIfInBounds i true) is
def opsAt (ops : Array Oper) : List Nat → List Oper
  | [] => []
  | i :: is => match ops[i]? with
    | some o => o :: opsAt ops is
    | none => opsAt ops is

theorem wpM_pick (hlast : waitsT md ops last = true) (hs : Region.noSelect ops = true) {V : World} (fuel : Nat) : ∀ (is : List Nat) (L : Array Bool) (a : Act), okSeq md ops last L is = true → (opsAt ops is).all plainB = true →
    wpQuiet P ops (fun w' => ∃ s : HW V, w' = s.w) (fun a' => wpM P md ops Q' last m fuel (setAll L is) a' V) (opsAt ops is) a → wpM P md ops Q' last m (is.length + fuel) L a V
  | [], L, a, _, _, h => by simpa [opsAt, wpQuiet, setAll] using h
  | i :: is, L, a, hok, hp, h => by
    simp only [okSeq, Bool.and_eq_true, decide_eq_true_eq] at hok
    obtain ⟨hil, hcl, hr, hf, hok'⟩ := hok
    have hr' : i ∈ Region.ready md ops L := by simpa using hr
    obtain ⟨-, o, h0, -⟩ := mem_ready.1 hr'
    have ho : opsAt ops (i :: is) = o :: opsAt ops is := by simp only [opsAt, h0]
    rw [ho] at h hp
    simp only [List.all_cons, Bool.and_eq_true] at hp
    have hst : qOp P ops (fun w' => ∃ s : HW V, w' = s.w) i (wpQuiet P ops (fun w' => ∃ s : HW V, w' = s.w) (fun a' => wpM P md ops Q' last m fuel (setAll L (i :: is)) a' V) (opsAt ops is)) a := by unfold qOp; simp only [h0]; exact h
    obtain ⟨v, hy, hK⟩ := yieldsIn_of_qOp h0 hst
    have hrest := wpM_pick hlast hs fuel is (L.setIfInBounds i true) (a.put o.dst v) hok' hp.2 hK
    rw [show (i :: is).length + fuel = (is.length + fuel) + 1 by simp; omega]
    refine wpM_first hlast h0 hil (Region.noSelect_spec hs) (is.length + fuel) _ a V (closedB_spec hcl) (Region.free_spec h0 hf) hr' ?_ hrest
    rcases hy with ⟨hw, hv⟩ | ⟨hw, rfl⟩
    · refine .inl ⟨hw, fun w hw' => ?_⟩
      have h3 := hv w hw'
      unfold Oper.quietAt at h3
      cases hrn : (execOp a.eval o).run P w with
      | ok n w1 =>
        obtain ⟨u, rfl⟩ := plainB_value hp.1 a.eval w n w1 hrn
        rw [hrn] at h3
        obtain ⟨e1, e2⟩ := h3
        rw [e1, e2]
      | halt x w1 => rw [hrn] at h3; exact h3.elim
    · exact .inr ⟨hw, rfl⟩

/-- Just one can come up, or just these two. -/
theorem wpM_only {L : Array Bool} {i fuel : Nat} {a : Act} {V : World} (hr : Region.ready md ops L = [i]) (h : mOp P ops i (wpM P md ops Q' last m fuel (L.setIfInBounds i true)) a V) : wpM P md ops Q' last m (fuel + 1) L a V :=
  ⟨by rw [hr]; simp, fun j hj => by rw [hr] at hj; rw [List.mem_singleton.1 hj]; exact h⟩
theorem wpM_two {L : Array Bool} {i j fuel : Nat} {a : Act} {V : World} (hr : Region.ready md ops L = [i, j]) (h : mOp P ops i (wpM P md ops Q' last m fuel (L.setIfInBounds i true)) a V) (h2 : mOp P ops j (wpM P md ops Q' last m fuel (L.setIfInBounds j true)) a V) : wpM P md ops Q' last m (fuel + 1) L a V :=
  ⟨by rw [hr]; simp, fun k hk => by
    rw [hr] at hk
    rcases List.mem_cons.1 hk with rfl | h3
    · exact h
    · rw [List.mem_singleton.1 h3]; exact h2⟩
theorem wpM_three {L : Array Bool} {i j k fuel : Nat} {a : Act} {V : World} (hr : Region.ready md ops L = [i, j, k]) (h : mOp P ops i (wpM P md ops Q' last m fuel (L.setIfInBounds i true)) a V) (h2 : mOp P ops j (wpM P md ops Q' last m fuel (L.setIfInBounds j true)) a V) (h3 : mOp P ops k (wpM P md ops Q' last m fuel (L.setIfInBounds k true)) a V) : wpM P md ops Q' last m (fuel + 1) L a V :=
  ⟨by rw [hr]; simp, fun x hx => by
    rw [hr] at hx
    simp only [List.mem_cons, List.not_mem_nil, or_false] at hx
    rcases hx with rfl | rfl | rfl
    · exact h
    · exact h2
    · exact h3⟩
theorem wpM_four {L : Array Bool} {i j k l fuel : Nat} {a : Act} {V : World} (hr : Region.ready md ops L = [i, j, k, l]) (h : mOp P ops i (wpM P md ops Q' last m fuel (L.setIfInBounds i true)) a V) (h2 : mOp P ops j (wpM P md ops Q' last m fuel (L.setIfInBounds j true)) a V) (h3 : mOp P ops k (wpM P md ops Q' last m fuel (L.setIfInBounds k true)) a V) (h4 : mOp P ops l (wpM P md ops Q' last m fuel (L.setIfInBounds l true)) a V) : wpM P md ops Q' last m (fuel + 1) L a V :=
  ⟨by rw [hr]; simp, fun x hx => by
    rw [hr] at hx
    simp only [List.mem_cons, List.not_mem_nil, or_false] at hx
    rcases hx with rfl | rfl | rfl | rfl
    · exact h
    · exact h2
    · exact h3
    · exact h4⟩
theorem mOp_call {k : Nat} {o : Oper} {a : Act} {V : World} {K : Act → World → Prop} (h0 : ops[k]? = some o) (hw : Region.wanted o (yielded ops a.tmps) = true)
    (f : FuncId) (args args' : Array Value) (hr : ∀ w, (execOp a.eval o).run P w = .ok (.enter f args) w) (he : args = args')
    (h : ∀ w, (∃ s : HW V, w = s.w) → Calls P f args' w (fun e w' => ∃ v, e = .returned v ∧ (∃ s : HW w, w' = s.w) ∧ K (a.put o.dst v) w')) : mOp P ops k K a V := by
  subst he
  unfold mOp
  simp only [h0, hw, if_true]
  exact .inr fun w hw' => .inl ⟨f, args, hr w, h w hw'⟩
theorem mOp_make {k : Nat} {o : Oper} {a : Act} {V : World} {K : Act → World → Prop} (h0 : ops[k]? = some o) (hw : Region.wanted o (yielded ops a.tmps) = true)
    (h : ∀ w, (∃ s : HW V, w = s.w) → ∃ v w', (execOp a.eval o).run P w = .ok (.value v) w' ∧ (∃ s : HW w, w' = s.w) ∧ K (a.put o.dst v) w') : mOp P ops k K a V := by
  unfold mOp
  simp only [h0, hw, if_true]
  exact .inr fun w hw' => .inr (h w hw')
/-- It is not wanted (its guard says no). -/
theorem mOp_skip {k : Nat} {o : Oper} {a : Act} {V : World} {K : Act → World → Prop} (h0 : ops[k]? = some o) (hw : Region.wanted o (yielded ops a.tmps) = false) (h : K (a.put o.dst undef) V) : mOp P ops k K a V := by
  unfold mOp
  simp only [h0, hw, Bool.false_eq_true, if_false]
  exact h
/-- In the midst of a region: these quiet operations next. -/
theorem wpM_more {V : World} {L : Array Bool} {a : Act} (is : List Nat) (n fuel : Nat) (hn : n = is.length + fuel) (hlast : waitsT md ops last = true) (hs : Region.noSelect ops = true) (hB : okSeq md ops last L is = true) (hp : (opsAt ops is).all plainB = true)
    (h : wpQuiet P ops (fun w' => ∃ s : HW V, w' = s.w) (fun a' => wpM P md ops Q' last m fuel (setAll L is) a' V) (opsAt ops is) a) : wpM P md ops Q' last m n L a V := by
  subst hn
  exact wpM_pick hlast hs fuel is L a hB hp h
theorem wpM_end {L : Array Bool} {a : Act} {V : World} (hL : L = upTo ops.size last) (hm : last + m = ops.size) (hB : (List.range' last m).all (fun i => okR md ops i && okOne md ops i) = true) (hp : 0 < m) (h : ∀ w, (∃ s : HW V, w = s.w) → wpList P ops Q' (ops.toList.drop last) a w) : wpM P md ops Q' last m 0 L a V := by
  subst hL
  exact wpM_tail hm hB hp h
/-- The region: these quiet operations first, then k more ahead of the chain of m. -/
theorem wp_region_pick {id : Nat} {a : Act} {w : World} (is : List Nat) (last k m : Nat) (hk : last = is.length + k) (hn : ops.size = last + m) (hm : P.follows .mixedOrders = true) (hs : Region.noSelect ops = true) (hlast : waitsT .any ops last = true) (hB : okSeq .any ops last (Array.replicate ops.size false) is = true) (hp : (opsAt ops is).all plainB = true)
    (h : wpQuiet P ops (fun w' => ∃ s : HW w, w' = s.w) (fun a' => wpM P .any ops Q' last m k (setAll (Array.replicate ops.size false) is) a' w) (opsAt ops is) a) : (Code.region id ops true).wp P Q' a w := by
  have h1 := wpM_pick (Q' := Q') (m := m) hlast hs k is (Array.replicate ops.size false) a hB hp h
  refine wp_region_any hm ?_
  have h2 := wpAny_of_M (is.length + k) _ a w { w with drawn := w.drawn + 1 } ⟨⟨w.drew, (Below.refl _ _).drew⟩, rfl⟩ h1
  rw [← hk, ← hn] at h2
  exact h2
/-- A slice that is made, by the walk's own laws (its guard said yes). -/
theorem wpList_nil_of {Q : Exit → Act → World → Prop} {a : Act} {w : World} (h : Q .normal a w) : wpList P ops Q [] a w := by simpa [wpList] using h
def makesS (o : Oper) : Bool := match o.op with
  | .makeSlice .. => true
  | _ => false
theorem makesS_value {o : Oper} (hp : makesS o = true) (ρ : Operand → Value) (w : World) (n : Next) (w' : World) (h : (execOp ρ o).run P w = .ok n w') : ∃ u, n = .value u := by
  unfold makesS at hp
  unfold execOp at h
  split at hp <;> rename_i ho <;> simp only [ho] at h
  · exact v_plain _ w n w' h
  · cases hp
theorem mOp_mk {k : Nat} {o : Oper} {a : Act} {V : World} {K : Act → World → Prop} (h0 : ops[k]? = some o) (hw : Region.wanted o (yielded ops a.tmps) = true) (hk : makesS o = true)
    (h : ∀ w, (∃ s : HW V, w = s.w) → wpList P ops (fun e a' w' => e = .normal ∧ Below w.heap.size w w' ∧ K a' w') [{ o with guard := none }] a w) : mOp P ops k K a V := by
  unfold mOp
  simp only [h0, hw, if_true]
  refine .inr fun w hw' => .inr ?_
  have h1 := h w hw'
  unfold wpList at h1
  simp only [show ∀ f, Region.wanted { o with guard := none } f = true from fun _ => rfl, if_true] at h1
  rcases h1 with h1 | ⟨-, a1, w1, h1, -⟩
  · unfold Oper.wp at h1
    rw [show execOp a.eval { o with guard := none } = execOp a.eval o from rfl] at h1
    cases hrn : (execOp a.eval o).run P w with
    | ok n w1 =>
      obtain ⟨u, rfl⟩ := makesS_value hk a.eval w n w1 hrn
      rw [hrn] at h1
      simp only [Oper.upon, wpList] at h1
      exact ⟨u, w1, rfl, ⟨⟨w1, h1.2.1⟩, rfl⟩, h1.2.2⟩
    | halt x w1 =>
      rw [hrn] at h1
      cases x <;> simp [Oper.upon] at h1
  · cases h1
end
end Go.Proofs.YtiabacnmmojfjabGreatDoor

/- Behind a drawn region in which a local is made at any time and the answer of the last call is stored in it (tools/picks.py store_region): the local holds it, all else is left; share: one walk for all branches. No program in it. -/
namespace Go.Proofs.YtiabacnmmojfjabGreatDoor
open Go Go.RowKit

def NotIn (p : Option Addr) (n q g : Nat) : Prop := ∀ k, (Value.slice p n q).ownBlock = some k → k ≠ g
theorem stored {V W : World} {g n q : Nat} {t : TypeId} {p : Option Addr} {L : List UInt8} (BB : Below V.heap.size V W) (AA : Arr W g t [.int .i64 0, .slice none 0 0]) (GG : V.heap.size ≤ g) (r : Rd W p q L) (NE : NotIn p n q g) :
    Arr ((W.setCell ⟨g, 0, none⟩ (.int .i64 0)).setCell ⟨g, 1, none⟩ (.slice p n q)) g t [.int .i64 0, .slice p n q] ∧ Rd ((W.setCell ⟨g, 0, none⟩ (.int .i64 0)).setCell ⟨g, 1, none⟩ (.slice p n q)) p q L ∧ Below V.heap.size V ((W.setCell ⟨g, 0, none⟩ (.int .i64 0)).setCell ⟨g, 1, none⟩ (.slice p n q)) := by
  refine ⟨(AA.set 0 _).set 1 _, ⟨r.1, r.2.1, r.2.2.1, fun hp => ?_⟩, (BB.setCell GG _).setCell GG _⟩
  obtain ⟨b, o, rfl, hc⟩ := r.2.2.2 hp
  have hb : b ≠ g := NE b (by simp [Value.ownBlock])
  refine ⟨b, o, rfl, fun i hi => ?_⟩
  rw [World.cell?_setCell_other _ _ _ _ (by simp; try omega), World.cell?_setCell_other _ _ _ _ (by simp; try omega)]
  exact hc i hi
theorem share {J A : Prop} (h : Hid J → A) (hj : J) : A := h hj
end Go.Proofs.YtiabacnmmojfjabGreatDoor

/- What the model's step 'field' gives of the answers' structs. -/
namespace Go.Proofs.YtiabacnmmojfjabGreatDoor
open Go

theorem int_f0 (c v : Int) (w : World) : (Instr.field 127 (.agg #[.int .i64 c, .int .i64 v]) 0).run Tryz.prog w = .ok (.int .i64 c) w := by kernel_rfl
theorem int_f1 (c v : Int) (w : World) : (Instr.field 127 (.agg #[.int .i64 c, .int .i64 v]) 1).run Tryz.prog w = .ok (.int .i64 v) w := by kernel_rfl
theorem bytes_f0 (c : Int) (a : Option Addr) (n m : Nat) (w : World) : (Instr.field 130 (.agg #[.int .i64 c, .slice a n m]) 0).run Tryz.prog w = .ok (.int .i64 c) w := by kernel_rfl
theorem bytes_f1 (c : Int) (a : Option Addr) (n m : Nat) (w : World) : (Instr.field 130 (.agg #[.int .i64 c, .slice a n m]) 1).run Tryz.prog w = .ok (.slice a n m) w := by kernel_rfl
end Go.Proofs.YtiabacnmmojfjabGreatDoor

/- Pieces of bytes that lie in a row of slices, and the contract of the program's own function over them: impl.joined (all pieces behind one another, in a row of its own). What was there stays. -/
namespace Go.Proofs.YtiabacnmmojfjabGreatDoor
open Go.ChangeShapes Go.WideShapes Go.ChangeAt Go.RowKit

/-- A piece: a slice of bytes. -/
structure Pc where
  p : Option Addr
  q : Nat
  bs : List UInt8
def Pc.val (x : Pc) : Value := .slice x.p x.bs.length x.q
/-- Pieces that lie one behind the other from ⟨b, o⟩ on, each of which can be read. -/
def Pcs (w : World) (b o : Nat) (ps : List Pc) : Prop := ∀ i x, ps[i]? = some x → w.cell? ⟨b, o + i, none⟩ = some x.val ∧ Rd w x.p x.q x.bs
theorem Pcs.keep {w w' : World} {b o : Nat} {ps : List Pc} (h : Pcs w b o ps) (hb : Below w.heap.size w w') : Pcs w' b o ps := fun i x hx =>
  ⟨(hb.cell (p := ⟨b, o + i, none⟩) (World.block_lt_of_cell? w _ (h i x hx).1)).trans (h i x hx).1, (h i x hx).2.keep hb⟩
def flat : List Pc → List UInt8
  | [] => []
  | x :: xs => x.bs ++ flat xs
theorem flat_append (xs ys : List Pc) : flat (xs ++ ys) = flat xs ++ flat ys := by
  induction xs with
  | nil => rfl
  | cons x xs ih => simp [flat, ih]
theorem flat_take {ps : List Pc} {j : Nat} {x : Pc} (h : ps[j]? = some x) : flat (ps.take (j + 1)) = flat (ps.take j) ++ x.bs := by
  obtain ⟨hj, he⟩ := List.getElem?_eq_some_iff.1 h
  rw [List.take_succ_eq_append_getElem hj, flat_append, he]
  simp [flat]
theorem flat_split (ps : List Pc) (j : Nat) : flat ps = flat (ps.take j) ++ flat (ps.drop j) := by
  rw [← flat_append, List.take_append_drop]
theorem flat_le (ps : List Pc) (j : Nat) : (flat (ps.take j)).length ≤ (flat ps).length := by
  rw [flat_split ps j, List.length_append]; omega
/-- What is laid behind k bytes. -/
def fillB (bs : List UInt8) (k : Nat) : List UInt8 := bs.take k ++ zs (bs.length - k)
theorem fillB_zero (bs : List UInt8) : fillB bs 0 = zs bs.length := by simp [fillB]
theorem fillB_all (bs : List UInt8) : fillB bs bs.length = bs := by simp [fillB, zs]
theorem fillB_len (bs : List UInt8) (k : Nat) (h : k ≤ bs.length) : (fillB bs k).length = bs.length := by simp [fillB, zs_len]; omega
theorem fillB_splice (bs : List UInt8) (k : Nat) (cs : List UInt8) (h : k + cs.length ≤ bs.length) (hc : (bs.drop k).take cs.length = cs) :
    splice ((fillB bs k).map u8v) k (cs.map u8v) = (fillB bs (k + cs.length)).map u8v := by
  have hl : ((bs.take k).map u8v).length = k := by simp; omega
  have e : bs.take (k + cs.length) = bs.take k ++ cs := by rw [List.take_add, hc]
  unfold splice fillB
  rw [e, List.map_append, List.map_append, List.map_append, List.take_append_of_le_length (by omega), List.take_of_length_le (by omega), List.drop_append, hl, List.length_map, List.drop_of_length_le (by omega), List.nil_append, List.append_assoc, show k + cs.length - k = cs.length by omega, ← List.map_drop]
  congr 3
  simp [zs]; omega
theorem flat_piece {ps : List Pc} {j : Nat} {x : Pc} (h : ps[j]? = some x) : (flat (ps.take j)).length + x.bs.length ≤ (flat ps).length ∧ ((flat ps).drop (flat (ps.take j)).length).take x.bs.length = x.bs := by
  have h1 := flat_split ps (j + 1)
  rw [flat_take h, List.append_assoc] at h1
  constructor
  · rw [h1]; simp
  · rw [h1, List.drop_left, List.take_left]

/-- Two pieces in a new row. -/
theorem pcs_two (w : World) (x y : Pc) (t : TypeId) (hx : Rd w x.p x.q x.bs) (hy : Rd w y.p y.q y.bs) : Pcs (w.alloc (.cells #[x.val, y.val] t)) w.heap.size 0 [x, y] := by
  have hA := Arr.new w [x.val, y.val] t
  intro i z hz
  rw [Nat.zero_add, hA.cell]
  match i, hz with
  | 0, hz => simp at hz; subst hz; exact ⟨rfl, hx.keep (alloc_below _ _)⟩
  | 1, hz => simp at hz; subst hz; exact ⟨rfl, hy.keep (alloc_below _ _)⟩
  | i + 2, hz => simp at hz
theorem flat_two (x y : Pc) : flat [x, y] = x.bs ++ y.bs := by simp [flat]
theorem pcs_one (w : World) (x : Pc) (t : TypeId) (hx : Rd w x.p x.q x.bs) : Pcs (w.alloc (.cells #[x.val] t)) w.heap.size 0 [x] := by
  have hA := Arr.new w [x.val] t
  intro i z hz
  rw [Nat.zero_add, hA.cell]
  match i, hz with
  | 0, hz => simp at hz; subst hz; exact ⟨rfl, hx.keep (alloc_below _ _)⟩
  | i + 1, hz => simp at hz
theorem pcs_three (w : World) (x y z : Pc) (t : TypeId) (hx : Rd w x.p x.q x.bs) (hy : Rd w y.p y.q y.bs) (hz : Rd w z.p z.q z.bs) : Pcs (w.alloc (.cells #[x.val, y.val, z.val] t)) w.heap.size 0 [x, y, z] := by
  have hA := Arr.new w [x.val, y.val, z.val] t
  intro i v hv
  rw [Nat.zero_add, hA.cell]
  match i, hv with
  | 0, hv => simp at hv; subst hv; exact ⟨rfl, hx.keep (alloc_below _ _)⟩
  | 1, hv => simp at hv; subst hv; exact ⟨rfl, hy.keep (alloc_below _ _)⟩
  | 2, hv => simp at hv; subst hv; exact ⟨rfl, hz.keep (alloc_below _ _)⟩
  | i + 3, hv => simp at hv
theorem flat_one (x : Pc) : flat [x] = x.bs := by simp [flat]
theorem flat_three (x y z : Pc) : flat [x, y, z] = x.bs ++ y.bs ++ z.bs := by simp [flat]
/-- A literal of bytes in a new row. -/
theorem rd_new (w : World) (vs : List Value) (bs : List UInt8) (t : TypeId) (n : Nat) (hv : vs = bs.map u8v) (hn : bs.length = n) (hl : n ≤ 1000) : Rd (w.alloc (.cells vs.toArray t)) (some ⟨w.heap.size, 0, none⟩) n bs := by
  have hA := Arr.new w vs t
  refine ⟨by omega, by unfold maxLen; omega, fun e => by simp at e, fun _ => ⟨_, _, rfl, fun i hi => ?_⟩⟩
  rw [Nat.zero_add, hA.cell, hv, u8v_at hi]
theorem pcs_four (w : World) (x y z v : Pc) (t : TypeId) (hx : Rd w x.p x.q x.bs) (hy : Rd w y.p y.q y.bs) (hz : Rd w z.p z.q z.bs) (hv : Rd w v.p v.q v.bs) : Pcs (w.alloc (.cells #[x.val, y.val, z.val, v.val] t)) w.heap.size 0 [x, y, z, v] := by
  have hA := Arr.new w [x.val, y.val, z.val, v.val] t
  intro i u hu
  rw [Nat.zero_add, hA.cell]
  match i, hu with
  | 0, hu => simp at hu; subst hu; exact ⟨rfl, hx.keep (alloc_below _ _)⟩
  | 1, hu => simp at hu; subst hu; exact ⟨rfl, hy.keep (alloc_below _ _)⟩
  | 2, hu => simp at hu; subst hu; exact ⟨rfl, hz.keep (alloc_below _ _)⟩
  | 3, hu => simp at hu; subst hu; exact ⟨rfl, hv.keep (alloc_below _ _)⟩
  | i + 4, hu => simp at hu
theorem u8_of (n : Nat) (h : n < 256) : u8v (UInt8.ofNat n) = .int .u8 (n : Int) := by
  unfold u8v
  rw [UInt8.toNat_ofNat', Nat.mod_eq_of_lt h]

set_option maxRecDepth 4000 in
set_option maxHeartbeats 1000000 in
theorem joined_c (ps : List Pc) (b o cap : Nat) (w : World) (hp : Pcs w b o ps) (hl : (flat ps).length ≤ 100000) (hn : ps.length ≤ 1000) :
    Calls Tryz.prog 200 #[.slice (some ⟨b, o, none⟩) ps.length cap] w fun e w' => ∃ u, e = .returned u ∧ Own w' w.heap.size u (flat ps) ∧ Below w.heap.size w w' := by
  obtain ⟨i0, hi, hz0, hz1, hz2⟩ := info_parts info8
  have HI : Hid ((Tryz.prog.info? 5).map (·.size) = some 1) := by show _ = _; rw [hi]; simp [hz1]
  have HP : Hid (Pcs w b o ps) := hp
  have HL : Hid ((flat ps).length ≤ 100000) := hl
  clear hp hl
  go_enter Tryz.func200, Tryz.ntmps200
  go_wp2
  go_loop [3, 12] (fun n i => ∃ j : Nat, j ≤ ps.length ∧ i = .int .i64 j ∧ n = .int .i64 ((flat (ps.take j)).length : Nat))
    (fun _ i => ps.length - (intOf i).toNat)
  case atStart => exact ⟨0, Nat.zero_le _, rfl, by simp [flat]⟩
  case round =>
    obtain ⟨j, hj, rfl, rfl⟩ := hrel
    by_cases hlt : j < ps.length
    · obtain ⟨x, hx⟩ : ∃ x, Hid (ps[j]? = some x) := ⟨ps[j], by show _ = _; simp [hlt]⟩
      have hcx := (HP.out j x hx.out).1
      have HF : Hid ((flat (ps.take (j + 1))).length = (flat (ps.take j)).length + x.bs.length) := by show _ = _; rw [flat_take hx.out, List.length_append]
      have hfl : (flat (ps.take (j + 1))).length ≤ 100000 := Nat.le_trans (flat_le ps _) HL.out
      rw [HF.out] at hfl
      unfold Pc.val at hcx
      generalize (flat (ps.take j)).length = m at *
      go_wp2
      go_round
      case rel => exact ⟨j + 1, by omega, by go_num, by rw [HF.out]; go_num⟩
      case measure => simp [intOf]; omega
    · have e : j = ps.length := by omega
      subst e
      rw [List.take_length]
      obtain ⟨fs, hfs⟩ : ∃ fs, Hid (fs = flat ps) := ⟨_, rfl⟩
      rw [← hfs.out] at HL ⊢
      have hfl : fs.length ≤ 100000 := HL.out
      clear hj hlt
      go_wp2_with (at_make; refine wpList_make_full _ rfl (.tmp 21) (.tmp 21) 22 rfl w.heap.size 5 i0 (.int .u8 0) 1 Tryz.underlying22 hi hz0 hz1 .i64 .i64 _ _ fs.length rfl rfl rfl rfl (by rw [hz2]; omega) (by unfold maxLen; omega) (Nat.le_refl _) ?_; intro w1 hown hgrow; have hA1 := (made_zeros hown).arr (zs_len fs.length); have hb1 : Below w.heap.size w w1 := (Below.refl _ _).grown hgrow (Nat.le_refl _) (fun k hk => by simp at hk); clear hown hgrow)
      go_loopw [7, 25] (fun n i wr => ∃ j : Nat, j ≤ ps.length ∧ i = .int .i64 j ∧ n = .int .i64 ((flat (ps.take j)).length : Nat) ∧ Arr wr w.heap.size 5 ((fillB fs (flat (ps.take j)).length).map u8v) ∧ Below w.heap.size w wr)
        (fun _ i _ => ps.length - (intOf i).toNat)
      case atStart => exact ⟨0, Nat.zero_le _, rfl, by simp [flat], by simp only [List.take_zero, flat, List.length_nil]; rw [fillB_zero]; exact hA1, hb1⟩
      case round =>
        clear hA1 hb1
        obtain ⟨j, hj, rfl, rfl, A, BW⟩ := hrel
        by_cases hlt : j < ps.length
        · obtain ⟨x, hx⟩ : ∃ x, Hid (ps[j]? = some x) := ⟨ps[j], by show _ = _; simp [hlt]⟩
          have HP2 : Hid (Pcs wr b o ps) := HP.out.keep BW
          have hcx := (HP2.out j x hx.out).1
          have HR : Hid (Rd wr x.p x.q x.bs) := (HP2.out j x hx.out).2
          have HF : Hid ((flat (ps.take (j + 1))).length = (flat (ps.take j)).length + x.bs.length) := by show _ = _; rw [flat_take hx.out, List.length_append]
          have hfp : (flat (ps.take j)).length + x.bs.length ≤ fs.length := by rw [hfs.out]; exact (flat_piece hx.out).1
          have HC : Hid ((fs.drop (flat (ps.take j)).length).take x.bs.length = x.bs) := by show _ = _; rw [hfs.out]; exact (flat_piece hx.out).2
          have HZ : Hid ((fillB fs (flat (ps.take j)).length).length = fs.length) := fillB_len _ _ (by omega)
          unfold Pc.val at hcx
          generalize (flat (ps.take j)).length = m at *
          have HS : Hid (splice ((fillB fs m).map u8v) m (x.bs.map u8v) = (fillB fs (m + x.bs.length)).map u8v) := fillB_splice fs m x.bs hfp HC.out
          obtain ⟨xp, xq, xb⟩ := x
          simp only at *
          go_wp2_with (refine wpList_copy_splice rfl (.tmp 32) (.tmp 33) 22 22 rfl 5 Tryz.underlying22 HI.out _ _ _ _ _ _ rfl rfl w.heap.size m ((fillB fs m).map u8v) 5 A (xb.map u8v) (by rw [List.length_map]; exact (Nat.min_eq_left (by omega)).symm) (fun hp => ⟨by (rw [List.length_map] at hp; have hne : ¬ (fs.length = m) := (by omega); simp [hne]), HR.out.addr (by simpa using hp)⟩) (by have := HZ.out; rw [List.length_map, List.length_map]; omega) (by intro u hu; obtain ⟨n, -, rfl⟩ := List.mem_map.1 hu; rfl) w.heap.size w BW (Nat.le_refl _) ?_; intro w2 hA2 hb2; replace hA2 : Arr w2 w.heap.size 5 ((fillB fs (m + xb.length)).map u8v) := by (have h := hA2.out; rw [HS.out] at h; exact h))
          all_goals
            go_roundw
            case rel => exact ⟨j + 1, by omega, by go_num, by rw [HF.out]; go_num, by rw [HF.out]; exact hA2, hb2⟩
            case measure => simp [intOf]; omega
        · have e : j = ps.length := by omega
          subst e
          rw [List.take_length, ← hfs.out, fillB_all] at A
          have RO := Arr.own (B := w.heap.size) A (Nat.le_refl _) (by omega)
          go_wp2
          go_ret
          exact ⟨_, rfl, by rw [← hfs.out]; exact RO, BW⟩

set_option maxRecDepth 4000 in
set_option maxHeartbeats 1000000 in
theorem l1Join_c (ps : List Pc) (b o cap : Nat) (w : World) (hp : Pcs w b o ps) (hl : (flat ps).length ≤ 100000) (hn : ps.length ≤ 1000) :
    Calls Tryz.prog 163 #[.slice (some ⟨b, o, none⟩) ps.length cap] w fun e w' => ∃ u, e = .returned u ∧ Own w' w.heap.size u (flat ps) ∧ Below w.heap.size w w' := by
  have HP : Hid (Pcs w b o ps) := hp
  have HL : Hid ((flat ps).length ≤ 100000) := hl
  have O1 := none_own8 w w.heap.size (Nat.le_refl _)
  have BW := alloc_below w (.cells #[] 5)
  clear hp hl
  go_enter Tryz.func163, Tryz.ntmps163
  go_wp2
  go_loopw [3, 4] (fun v i wr => ∃ j : Nat, j ≤ ps.length ∧ i = .int .i64 j ∧ Own wr w.heap.size v (flat (ps.take j)) ∧ Below w.heap.size w wr)
    (fun _ i _ => ps.length - (intOf i).toNat)
  case atStart => exact ⟨0, Nat.zero_le _, rfl, O1, BW⟩
  case round =>
    clear O1 BW
    obtain ⟨j, hj, rfl, ho, BW⟩ := hrel
    obtain ⟨po, qo, rfl, -⟩ := ho.rd
    by_cases hlt : j < ps.length
    · have hI : (j : Int) < (ps.length : Int) := by omega
      obtain ⟨x, hx⟩ : ∃ x, Hid (ps[j]? = some x) := ⟨ps[j], by show _ = _; simp [hlt]⟩
      have HP2 : Hid (Pcs wr b o ps) := HP.out.keep BW
      have hcx := (HP2.out j x hx.out).1
      have HR : Hid (Rd wr x.p x.q x.bs) := (HP2.out j x hx.out).2
      have HF : Hid (flat (ps.take (j + 1)) = flat (ps.take j) ++ x.bs) := flat_take hx.out
      have HT : Hid ((flat (ps.take j)).length + x.bs.length ≤ 100000) := by have h := (flat_piece hx.out).1; have := HL.out; show _ ≤ _; omega
      unfold Pc.val at hcx
      obtain ⟨xp, xq, xb⟩ := x
      simp only at *
      have HO : Hid (Own wr w.heap.size (.slice po (flat (ps.take j)).length qo) (flat (ps.take j))) := ho
      obtain ⟨fs, hfs⟩ : ∃ fs, Hid (fs = flat (ps.take j)) := ⟨_, rfl⟩
      rw [← hfs.out] at HO HF HT ⊢
      clear ho
      have hOw := HO.out
      go_wp2_with (at_builtin; refine wpList_append_rd rfl (.tmp 12) (.tmp 16) rfl w.heap.size _ fs rfl hOw xp xq xb rfl HR.out (by have := HT.out; omega) BW.size ?_; intro v2 w2 k2 hg2)
      have BW2 := BW.grown hg2 BW.size (fun k hk => hOw.ge k hk)
      rw [← HF.out] at k2
      clear hOw HO hg2 HR HP2 hcx
      go_roundw
      case rel => exact ⟨j + 1, by omega, by go_num, k2, BW2⟩
      case measure => simp [intOf]; omega
    · have e : j = ps.length := by omega
      subst e
      rw [List.take_length] at ho ⊢
      go_wp2
      go_ret
      exact ⟨_, rfl, ho, BW⟩

theorem flat_four (x y z v : Pc) : flat [x, y, z, v] = x.bs ++ y.bs ++ z.bs ++ v.bs := by simp [flat]
end Go.Proofs.YtiabacnmmojfjabGreatDoor

/- The contracts of the laws' helpers on lists of bytes, and on answers that hold such a list: toByteSS, szByteSS, eqByteSS, markByteSS, heldByteSS; eqBlocksResult, markBlocksResult, heldBlocksResult. -/
namespace Go.Proofs.YtiabacnmmojfjabGreatDoor
open Go.ChangeShapes Go.WideShapes Go.ChangeAt Go.RowKit

abbrev BlkD := List UInt8
theorem blk_rep {w : World} {a : BlkD} {vs : List Value} (h : bytC.rep w a vs) : ∃ p q, vs = [.slice p a.length q] ∧ Rd w p q a := h
theorem blk_own {w : World} {B : Nat} {a : BlkD} {vs : List Value} {fp : List Nat} (h : bytC.own w B a vs fp) : ∃ v, vs = [v] ∧ Own w B v a ∧ fp = v.ownBlock.toList := h
theorem blk_own_mk {w : World} {B : Nat} {a : BlkD} {v : Value} (o : Own w B v a) : bytC.own w B a [v] v.ownBlock.toList := ⟨v, rfl, o, rfl⟩
def sumB (l : List BlkD) : Nat := (l.map List.length).sum
def bulkB (l : List BlkD) : Nat := sumB l + l.length
theorem sumB_take {l : List BlkD} {k : Nat} {a : BlkD} (h : l[k]? = some a) : sumB (l.take (k + 1)) = sumB (l.take k) + a.length := by
  rw [List.take_add_one, h]; simp [sumB]
theorem sumB_append (l r : List BlkD) : sumB (l ++ r) = sumB l + sumB r := by simp [sumB]
theorem sumB_le (l : List BlkD) (k : Nat) : sumB (l.take k) ≤ sumB l := by
  conv => rhs; rw [← List.take_append_drop k l, sumB_append]
  omega
theorem sumB_at {l : List BlkD} {k : Nat} {a : BlkD} (h : l[k]? = some a) : a.length ≤ sumB l := by
  have h1 := sumB_take h
  have h2 := sumB_le l (k + 1)
  omega

theorem infoBlk : (Tryz.prog.info? 22).map (fun i => (i.zero, i.size, i.bytes)) = some (some (.slice none 0 0), 1, 24) := by kernel_rfl



def mkB : List BlkD → Nat → List BlkD
  | [], _ => []
  | a :: l, m => marks m a.length :: mkB l (m + a.length)
theorem mkB_append : ∀ (l r : List BlkD) (m : Nat), mkB (l ++ r) m = mkB l m ++ mkB r (m + sumB l)
  | [], r, m => by simp [mkB, sumB]
  | a :: l, r, m => by
    rw [List.cons_append, mkB, mkB, mkB_append l r, List.cons_append, show m + a.length + sumB l = m + sumB (a :: l) by simp [sumB]; omega]
theorem mkB_len : ∀ (l : List BlkD) (m : Nat), (mkB l m).length = l.length
  | [], _ => rfl
  | a :: l, m => by rw [mkB, List.length_cons, mkB_len l, List.length_cons]
theorem mkB_take {l : List BlkD} {k : Nat} {a : BlkD} (h : l[k]? = some a) (m : Nat) : mkB (l.take (k + 1)) m = mkB (l.take k) m ++ [marks (m + sumB (l.take k)) a.length] := by
  rw [List.take_add_one, h, mkB_append]; rfl
theorem mkB_at {l : List BlkD} {k : Nat} {a : BlkD} (h : l[k]? = some a) (m : Nat) : (mkB l m)[k]? = some (marks (m + sumB (l.take k)) a.length) := by
  have hk := (List.getElem?_eq_some_iff.1 h).1
  conv => lhs; rw [← List.take_append_drop k l, drop_at h, mkB_append]
  rw [List.getElem?_append_right (by rw [mkB_len, List.length_take]; omega), mkB_len, List.length_take, Nat.min_eq_left (by omega), Nat.sub_self]
  rfl



end Go.Proofs.YtiabacnmmojfjabGreatDoor

