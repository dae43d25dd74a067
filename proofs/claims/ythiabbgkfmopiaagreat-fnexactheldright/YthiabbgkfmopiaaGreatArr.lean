/- Arrays in memory (a local of an array type, a boxed one), with no program in it: 'Arr w g t vs': block g holds just these cells. What keeps it. No conditions but those in each line. -/
import Derived.Test.YthiabbgkfmopiaaGreatJoint2
import Derived.Deep.WholeRow
namespace Go.Proofs.YthiabbgkfmopiaaGreat
open Go.RowKit

def Arr (w : World) (g : Nat) (t : TypeId) (vs : List Value) : Prop := w.heap[g]? = some (.cells vs.toArray t (0, 0))

theorem Arr.cell {w : World} {g : Nat} {t : TypeId} {vs : List Value} (h : Arr w g t vs) (i : Nat) : w.cell? ⟨g, i, none⟩ = vs[i]? := by
  rw [cell_of_row w g i vs.toArray t (0, 0) h]; simp
theorem Arr.frozen {w : World} {g : Nat} {t : TypeId} {vs : List Value} (h : Arr w g t vs) (i : Nat) : w.frozen? ⟨g, i, none⟩ = false := frozen_of_row w g i _ t h
theorem Arr.lt {w : World} {g : Nat} {t : TypeId} {vs : List Value} (h : Arr w g t vs) : g < w.heap.size := (Array.getElem?_eq_some_iff.1 h).1
theorem Arr.set {w : World} {g : Nat} {t : TypeId} {vs : List Value} (h : Arr w g t vs) (i : Nat) (v : Value) : Arr (w.setCell ⟨g, i, none⟩ v) g t (vs.set i v) := by
  unfold Arr
  rw [heap_setCell_same w g i vs.toArray t v h]; simp
theorem Arr.setOther {w : World} {g : Nat} {t : TypeId} {vs : List Value} (h : Arr w g t vs) {a : Addr} (ha : g ≠ a.block) (u : Value) : Arr (w.setCell a u) g t vs := by
  unfold Arr
  rw [heap_setCell_other w a g u ha]; exact h
theorem Arr.keep {w w' : World} {g B : Nat} {t : TypeId} {vs : List Value} (h : Arr w g t vs) (hb : Below B w w') (hg : g < B) : Arr w' g t vs := (hb.block g hg).trans h
theorem Arr.stay {w w' : World} {g : Nat} {t : TypeId} {vs : List Value} (h : Arr w g t vs) (hb : Below w.heap.size w w') : Arr w' g t vs := h.keep hb h.lt
theorem Arr.other {w w' : World} {g : Nat} {t : TypeId} {vs : List Value} {row : Option Nat} (h : Arr w g t vs) (hg : w.grownBy w' row) (hne : row ≠ some g) : Arr w' g t vs :=
  (hg.block g h.lt (fun e => hne e.symm)).trans h
theorem Arr.drew {w : World} {g n : Nat} {t : TypeId} {vs : List Value} (h : Arr w g t vs) : Arr (w.drewN n) g t vs := h
theorem Arr.new (w : World) (vs : List Value) (t : TypeId) : Arr (w.alloc (.cells vs.toArray t)) w.heap.size t vs := heap_alloc_new w _
theorem Arr.old (w : World) (o : Obj) {g : Nat} {t : TypeId} {vs : List Value} (h : Arr w g t vs) : Arr (w.alloc o) g t vs := h.stay (alloc_below w o)
theorem Arr.row {w : World} {g : Nat} {t : TypeId} {vs : List Value} (h : Arr w g t vs) (us : List Value) : Arr (w.setRow g us.toArray) g t us := setRow_heap w g _ _ t _ h
theorem Arr.rowOther {w : World} {g k : Nat} {t : TypeId} {vs : List Value} (h : Arr w g t vs) (hk : g ≠ k) (us : Array Value) : Arr (w.setRow k us) g t vs := (setRow_other w k g us hk).trans h
theorem Below.row {B : Nat} {a w : World} (h : Below B a w) {g : Nat} (hg : B ≤ g) (us : Array Value) : Below B a (w.setRow g us) :=
  ⟨h.os, h.tape, h.output, by rw [size_setRow]; exact h.size, fun k hk => (setRow_other w g k us (by omega)).trans (h.block k hk)⟩
theorem Own.row {w : World} {B : Nat} {v : Value} {bs : List UInt8} (h : Own w B v bs) {g : Nat} (hg : ∀ k, v.ownBlock = some k → k ≠ g) (us : Array Value) : Own (w.setRow g us) B v bs := by
  obtain ⟨h1, h2⟩ := h
  refine ⟨h1, ?_⟩
  rcases h2 with h2 | ⟨k, cap, cur, rfl, hb, hh, r⟩
  · exact .inl h2
  · exact .inr ⟨k, cap, cur, rfl, hb, (setRow_other w g k us (hg k rfl)).trans hh, r⟩
theorem Loc.arr {w : World} {g : Nat} {t : TypeId} {vs : List Value} (h : Arr w g t vs) : Loc w g vs := ⟨fun i _ hv => (h.cell i).trans hv, fun o => h.frozen o⟩

theorem addr_add (g o j : Nat) : (⟨g, o, none⟩ : Addr).add j = ⟨g, o + j, none⟩ := by simp [Addr.add]
theorem Arr.cells {w : World} {g : Nat} {t : TypeId} {vs : List Value} (h : Arr w g t vs) : ∀ j u, vs[j]? = some u → w.cell? ((⟨g, 0, none⟩ : Addr).add j) = some u := fun j u hu => by
  rw [addr_add, Nat.zero_add, h.cell]; exact hu
/-- A literal of no elements, laid behind a new block. -/
theorem none_owned (w : World) (X : Obj) (B : Nat) (e : TypeId) (hB : B ≤ w.heap.size) : ((w.alloc X).alloc (.cells #[] e)).ownsRow B e 1 (.slice (some ⟨w.heap.size + 1, 0, none⟩) 0 0) 0 [] := by
  have h := World.ownsRow_lit (base := B) (e := e) (size := 1) (w.alloc X) #[] 0 (by rw [size_alloc]; omega) (by unfold maxLen; decide) (by simp)
  rw [size_alloc] at h
  exact h

/-- What a loop that fills a row from its first element on has laid behind k rounds. -/
def partV (vs : List Value) (z : Value) (k : Nat) : List Value := vs.take k ++ List.replicate (vs.length - k) z
theorem partV_zero (vs : List Value) (z : Value) : partV vs z 0 = List.replicate vs.length z := by simp [partV]
theorem partV_all (vs : List Value) (z : Value) : partV vs z vs.length = vs := by simp [partV]
theorem partV_set {vs : List Value} {k : Nat} {v : Value} (z : Value) (h : vs[k]? = some v) : (partV vs z k).set k v = partV vs z (k + 1) := by
  have hk := (List.getElem?_eq_some_iff.1 h).1
  have hv := (List.getElem?_eq_some_iff.1 h).2
  have hl : (vs.take k).length = k := by simp; omega
  unfold partV
  rw [List.set_append_right _ _ (by omega), hl, Nat.sub_self, List.take_succ_eq_append_getElem hk, List.append_assoc]
  congr 1
  rw [show vs.length - k = (vs.length - (k + 1)) + 1 by omega, List.replicate_succ, List.set_cons_zero, hv]
  rfl
theorem partV_at (vs : List Value) (z : Value) (k : Nat) (h : k < vs.length) : (partV vs z k)[k]? = some z := by
  have hl : (vs.take k).length = k := by simp; omega
  unfold partV
  rw [List.getElem?_append_right (by omega), hl, Nat.sub_self, List.getElem?_replicate, if_pos (by omega)]

/-- A new variable of an array type, its cells not written out. -/
theorem wp_alloc_arr {P : Program} {o : Oper} {a : Act} {w : World} {K : Act → World → Prop} {Q : Exit → Act → World → Prop} (t : TypeId) (ho : o.op = .alloc t) (cs : Array Value) (hz : ∀ w, (zeroValue t).run P w = .ok (.agg cs) w)
    (h : K (a.put o.dst (.pointer (some ⟨w.heap.size, 0, none⟩))) (w.alloc (.cells cs t))) : o.wp P a w K Q := by
  unfold Oper.wp execOp
  simp only [ho, Instr.alloc, Sem.run_bind, hz, Result.andThen_ok, newVar, newRow, Value.cells, run_newObj_alloc, Sem.run_pure]
  exact h
theorem wpList_alloc_arr {P : Program} {ops : Array Oper} {rest : List Oper} {o : Oper} {a : Act} {w : World} {Q : Exit → Act → World → Prop} (hgd : o.guard = none) (t : TypeId) (ho : o.op = .alloc t) (cs : Array Value) (hz : ∀ w, (zeroValue t).run P w = .ok (.agg cs) w) (H : Nat) (hH : w.heap.size = H)
    (h : wpList P ops Q rest (a.put o.dst (.pointer (some ⟨H, 0, none⟩))) (w.alloc (.cells cs t))) : wpList P ops Q (o :: rest) a w := by
  subst hH
  exact wpList_plain hgd fun _ hK => wp_alloc_arr t ho cs hz (hK _ _ h)
theorem wpList_build_is {P : Program} {ops : Array Oper} {rest : List Oper} {o : Oper} {a : Act} {w : World} {Q : Exit → Act → World → Prop} (hgd : o.guard = none) (t : TypeId) (ho : o.op = .build t #[]) (cells : Array Value)
    (hb : P.built t [] = some cells) (h : wpList P ops Q rest (a.put o.dst (.agg cells)) w) : wpList P ops Q (o :: rest) a w :=
  wpList_build hgd t #[] ho (by simp [hb]) (by simpa [hb] using h)
/-- An element of an array that is a value. -/
theorem wpList_index_arr {P : Program} {ops : Array Oper} {rest : List Oper} {o : Oper} {a : Act} {w : World} {Q : Exit → Act → World → Prop} (hgd : o.guard = none) (t : TypeId) (x i : Operand) (ho : o.op = .index t x i)
    (n : Nat) (e : TypeId) (cs : Array Value) (j : Nat) (k : IntKind) (k' : IntKind) (v : Value) (hx : a.eval x = .agg cs) (hi : a.eval i = .int k (j : Int)) (hu : P.underlying t = some (.array n e)) (hj : j < n)
    (he : (P.info? e).map (·.size) = some 1) (hue : P.underlying e = some (.int k')) (hc : cs[j]? = some v)
    (h : wpList P ops Q rest (a.put o.dst v) w) : wpList P ops Q (o :: rest) a w :=
  wpList_plain hgd fun _ hK => by
    unfold Oper.wp execOp
    cases hq : P.info? e with
    | none => simp [hq] at he
    | some ie =>
      have hs : ie.size = 1 := by simpa [hq] using he
      have hj' : (0 : Int) ≤ (j : Int) ∧ (j : Int) < (n : Int) := by omega
      have hz : (sizeOf e).run P w = .ok 1 w := by simp [sizeOf, typeInfo, hq, hs]
      have hg : (isAgg e).run P w = .ok false w := by simp [isAgg, run_underlying hue]
      have r : (Instr.index t (.agg cs) (.int k (j : Int))).run P w = .ok v w := by
        simp only [Instr.index, asIntOf, Sem.run_bind, Sem.run_pure, Result.andThen_ok, run_underlying hu, if_pos hj', hz, Int.toNat_natCast, Nat.mul_one, Go.part, hg, hc]
        rfl
      simp only [ho, hx, hi, Sem.run_bind, Sem.run_pure, r, Result.andThen_ok]
      exact hK _ _ h

/-- 64 cells of zero. -/
def zI : List Value := List.replicate 64 (.int .i64 0)
def zU : List Value := List.replicate 64 (.int .u32 0)
theorem zI_len : zI.length = 64 := by simp [zI]
theorem zU_len : zU.length = 64 := by simp [zU]

end Go.Proofs.YthiabbgkfmopiaaGreat

