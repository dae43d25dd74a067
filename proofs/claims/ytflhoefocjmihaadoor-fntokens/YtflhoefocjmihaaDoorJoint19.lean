/- The shelf's contracts of maps.Keys, slices.Sorted and slices.Sort at the program's own numbers (written by tools/sortk.py), and what they come to: the keys of a map, sorted. -/
import Derived.Shelf.SlIterI.Nil
import Derived.Shelf.SortM.Plain
import Derived.Shelf.SortM.SortNone
import Derived.Test.YtflhoefocjmihaaDoorJoint9
import Derived.Test.YtflhoefocjmihaaDoorSesI
import Derived.Laws.AppendOwn
import Derived.Deep.AppendLies
import Derived.Maps.OwnSet
import Derived.Maps.OwnOps
import Derived.Test.YtflhoefocjmihaaDoorJoint10
import Derived.Test.YtflhoefocjmihaaDoorJoint12
import Derived.Test.YtflhoefocjmihaaDoorSesN
namespace Go.Proofs.YtflhoefocjmihaaDoor
open Go Go.Shelf Go.Maps Go.Sort Go.RowKit

end Go.Proofs.YtflhoefocjmihaaDoor

/- What is held as a map from certificates to times, in the program: the map of a list (untilsOf), the list of a map (list), whether one is there (has); HoldsNow. What was there stays. -/
namespace Go.Proofs.YtflhoefocjmihaaDoor
open Go.ChangeShapes Go.WideShapes Go.ChangeAt Go.RowKit

def lkH (l : List HeldD) (k : Int) : Option Int := (l.find? fun h => h.1 == k).map (·.2)
theorem lkH_zero (l : List HeldD) (k : Int) : lkH (l.take 0) k = none := by simp [lkH]
theorem lkH_has {l : List HeldD} {k : Int} : (lkH l k).isSome = hasH l k := by
  unfold lkH hasH
  rw [Option.isSome_map, List.isSome_find?]
theorem lkH_take {l : List HeldD} {k : Nat} {a : HeldD} (hr : Rise l) (ha : l[k]? = some a) : lkH (l.take (k + 1)) = fun j => if j = a.1 then some a.2 else lkH (l.take k) j := by
  funext j
  unfold lkH
  rw [List.take_add_one, ha, List.find?_append]
  by_cases hj : j = a.1
  · subst hj
    have hn : (l.take k).find? (fun h => h.1 == a.1) = none := by
      rw [List.find?_eq_none]
      intro x hx
      obtain ⟨i, hi⟩ := List.mem_iff_getElem?.1 hx
      have hik : i < k := by
        have := (List.getElem?_eq_some_iff.1 hi).1
        rw [List.length_take] at this
        omega
      rw [List.getElem?_take_of_lt hik] at hi
      obtain ⟨hi1, hi2⟩ := List.getElem?_eq_some_iff.1 hi
      obtain ⟨hk1, hk2⟩ := List.getElem?_eq_some_iff.1 ha
      have := List.pairwise_iff_getElem.1 hr i k hi1 hk1 hik
      rw [hi2, hk2] at this
      have hne : ¬ x.1 = a.1 := by omega
      simpa using hne
    rw [hn]
    simp
  · have e : (a.1 == j) = false := by rw [beq_eq_false_iff_ne]; exact fun h => hj h.symm
    rw [if_neg hj]
    simp [e]
theorem lkH_at {l : List HeldD} {k : Nat} {a : HeldD} (hr : Rise l) (ha : l[k]? = some a) : lkH l a.1 = some a.2 := by
  have h1 : ∀ j, k < j → j ≤ l.length → lkH (l.take j) a.1 = some a.2 := fun j => by
    induction j with
    | zero => intro h; omega
    | succ j ih =>
      intro h1 h2
      obtain ⟨b, hb⟩ : ∃ b, l[j]? = some b := ⟨l[j], by simp⟩
      rw [lkH_take hr hb]
      by_cases hk : k = j
      · subst hk
        rw [ha] at hb
        cases hb
        simp
      · have hlt : k < j := by omega
        obtain ⟨hi1, hi2⟩ := List.getElem?_eq_some_iff.1 ha
        obtain ⟨hk1, hk2⟩ := List.getElem?_eq_some_iff.1 hb
        have := List.pairwise_iff_getElem.1 hr k j hi1 hk1 hlt
        rw [hi2, hk2] at this
        simp only
        rw [if_neg (by omega)]
        exact ih hlt (by omega)
  have := h1 l.length (List.getElem?_eq_some_iff.1 ha).1 (Nat.le_refl _)
  rwa [List.take_length] at this
theorem lkH_hn {l : List HeldD} {k now : Int} (hr : Rise l) : hnB l k now = match lkH l k with | some u => decide (now ≤ u) | none => false := by
  cases h : lkH l k with
  | none =>
    have h2 : hasH l k = false := by rw [← lkH_has, h]; rfl
    simp only
    unfold hnB
    rw [List.any_eq_false]
    intro x hx
    have := h2
    simp only [hasH, List.any_eq_false] at this
    have := this x hx
    simp at this
    simp [this]
  | some u =>
    have h2 : hasH l k = true := by rw [← lkH_has, h]; rfl
    obtain ⟨a, ha, rfl⟩ := hasH_iff.1 h2
    obtain ⟨i, hi⟩ := List.mem_iff_getElem?.1 ha
    have h3 := lkH_at hr hi
    rw [h] at h3
    cases h3
    simp only
    unfold hnB
    cases hd : decide (now ≤ a.2)
    · rw [List.any_eq_false]
      intro x hx
      by_cases he : x.1 = a.1
      · obtain ⟨j, hj⟩ := List.mem_iff_getElem?.1 hx
        have h4 := lkH_at hr hj
        rw [he, h] at h4
        have h5 : x.2 = a.2 := (Option.some.inj h4).symm
        rw [h5]
        simpa [he] using hd
      · simp [he]
    · rw [List.any_eq_true]
      exact ⟨a, ha, by simpa using hd⟩
def cellsH (l : List HeldD) : List Value := l.flatMap fun a => [.int .i64 a.1, .int .i64 a.2]
theorem cellsH_snoc (l : List HeldD) (a : HeldD) : cellsH (l ++ [a]) = cellsH l ++ [.int .i64 a.1, .int .i64 a.2] := by simp [cellsH]
theorem cellsH_all {w : World} {B : Nat} : ∀ (l : List HeldD), OwnAll holdC w B l (cellsH l) []
  | [] => ⟨rfl, rfl⟩
  | _ :: l => ⟨_, _, [], [], rfl, rfl, hold_own, cellsH_all l⟩
open Go.Maps in
/-- What a map holds, as a function. -/
def MapIs (D : DataW Unit) (f : Int → Option Int) : Prop := ∀ k : Int, Maps.has D (.int .i64 k) = (f k).isSome ∧ D.atKey (.int .i64 k) (.lit (.int .i64 0)) = .lit (.int .i64 ((f k).getD 0))
theorem MapIs.nil : MapIs (.map []) (fun _ => none) := fun _ => ⟨rfl, rfl⟩
theorem litNe {a b : Int} (h : a ≠ b) : (Lit.int .i64 a) ≠ (Lit.int .i64 b) := fun e => h (by injection e)
theorem MapIs.put {D : DataW Unit} {f : Int → Option Int} (h : MapIs D f) (hm : Go.Maps.IsMap D) (k u : Int) (hk : WideAt.IsKeyLit (.int .i64 k)) : MapIs (D.put (.int .i64 k) (.lit (.int .i64 u))) (fun j => if j = k then some u else f j) := fun j => by
  by_cases hj : j = k
  · subst hj
    simp only [if_true]
    exact ⟨Go.Maps.has_put_same hm hk _, Go.Maps.atKey_put_same hm hk _ _⟩
  · simp only [if_neg hj]
    rw [Go.Maps.has_put_other (litNe hj), Go.Maps.atKey_put_other (litNe hj)]
    exact h j
theorem MapIs.del {D : DataW Unit} {f : Int → Option Int} (h : MapIs D f) (k : Int) : MapIs (D.del (.int .i64 k)) (fun j => if j = k then none else f j) := fun j => by
  by_cases hj : j = k
  · subst hj
    simp only [if_true]
    exact ⟨Go.Maps.has_del_same, Go.Maps.atKey_del_same _⟩
  · simp only [if_neg hj]
    rw [Go.Maps.has_del_other (litNe hj), Go.Maps.atKey_del_other (litNe hj)]
    exact h j
end Go.Proofs.YtflhoefocjmihaaDoor

/- Lists of contexts that are copied, and cut, in the program; a session that owns its memory (ownSession). What was there stays. -/
namespace Go.Proofs.YtflhoefocjmihaaDoor
open Go.ChangeShapes Go.WideShapes Go.ChangeAt Go.RowKit

/-- append(list, x) where the list owns its memory and x is newer than it. -/
theorem wpList_append_blkG {ops : Array Oper} {rest : List Oper} {o : Oper} {a : Act} {Q : Exit → Act → World → Prop} {wr wn : World} {B g : Nat} {v u : Value} {out : List (List UInt8)} {xs : List Value} {fp : List Nat} {bs : List UInt8} (hgd : o.guard = none) (s x : Operand)
    (ho : o.op = .call { callee := .builtin .append, args := #[s, x], argTypes := #[24, 24] })
    (hO : OwnL 22 bytC wr B v out xs fp) (hu : Own wn wr.heap.size u bs) (hb : Below wr.heap.size wr wn) (hA : Arr wn g 22 [u]) (hs : a.eval s = v) (hx : a.eval x = .slice (some ⟨g, 0, none⟩) 1 1) (hB : B ≤ wr.heap.size) (hn : out.length ≤ 1000)
    (h : ∀ p q w' xs' fp', OwnL 22 bytC w' B (.slice p (out.length + 1) q) (out ++ [bs]) xs' fp' → wn.grownBy w' v.ownBlock → (∀ k, k ∈ (Value.slice p (out.length + 1) q).ownBlock.toList ++ fp' → k ∈ v.ownBlock.toList ++ fp ∨ wr.heap.size ≤ k) → Below B wn w' → wpList Tryd.prog ops Q rest (a.put o.dst (.slice p (out.length + 1) q)) w') : wpList Tryd.prog ops Q (o :: rest) a wn := by
  obtain ⟨i0, hi, hz0, hz1, hz2⟩ := info_parts infoBlk
  obtain ⟨pu, qu, rfl, -⟩ := hu.rd
  obtain ⟨po, qo, rfl, -⟩ := hO.rd
  have ho5 := hO.stay hb
  have hins := hO.ins
  have hnew : ∀ j u, ([.slice pu bs.length qu] : List Value)[j]? = some u → wn.cell? ((⟨g, 0, none⟩ : Addr).add j) = some u := fun j u hj => hA.cells j u hj
  have hz : B ≤ wn.heap.size := Nat.le_trans hB hb.size
  refine wpList_append_lies _ hgd s x 24 ho B 22 i0 (.slice none 0 0) 1 24 Tryd.underlying24 hi hz0 hz1 hz2 rfl (by decide) _ out.length xs hs ho5.row ⟨g, 0, none⟩ 1 1 [.slice pu bs.length qu] hx rfl hnew (by intro u hu; simp at hu; subst hu; rfl) (by decide) (by unfold maxLen; omega) (by omega) hz _ rfl ?_
  intro g6 c6 w6 hown6 hgrow6 hat6 hlt6
  have ka := blk_own_mk (a := bs) (hu.lower (B' := B) hB)
  have OP := ho5.push ka (fun j hj hj2 => by
    have h1 := hu.ge j (mem_opt.1 hj)
    have h2 := (hins j hj2).2
    omega) (k := out.length + 1) (v' := .slice (some ⟨g6, 0, none⟩) (out.length + 1) c6) (g := g6) hown6 (by simp) hgrow6 rfl hat6
  refine h _ _ _ _ _ OP hgrow6 (fun k hk => ?_) ((Below.refl B _).grown hgrow6 hz (fun k hk => (hins k (List.mem_append_left _ (mem_opt.2 hk))).1))
  rcases List.mem_append.1 hk with hk | hk
  · have hg : k = g6 := (Option.some.inj (mem_opt.1 hk)).symm
    subst hg
    rcases hat6 with h1 | h1
    · exact .inl (List.mem_append_left _ (mem_opt.2 h1))
    · exact .inr (by rw [h1]; exact hb.size)
  · rcases List.mem_append.1 hk with hk | hk
    · exact .inl (List.mem_append_right _ hk)
    · exact .inr (hu.ge k (mem_opt.1 hk))
theorem wpList_append_blk {ops : Array Oper} {rest : List Oper} {o : Oper} {a : Act} {Q : Exit → Act → World → Prop} {wr w2 : World} {B : Nat} {v u : Value} {out : List (List UInt8)} {xs : List Value} {fp : List Nat} {bs : List UInt8} (hgd : o.guard = none) (s x : Operand)
    (ho : o.op = .call { callee := .builtin .append, args := #[s, x], argTypes := #[24, 24] })
    (hO : OwnL 22 bytC wr B v out xs fp) (hu : Own w2 wr.heap.size u bs) (hb : Below wr.heap.size wr w2) (hs : a.eval s = v) (hx : a.eval x = .slice (some ⟨w2.heap.size, 0, none⟩) 1 1) (hB : B ≤ wr.heap.size) (hn : out.length ≤ 1000)
    (h : ∀ p q w' xs' fp', OwnL 22 bytC w' B (.slice p (out.length + 1) q) (out ++ [bs]) xs' fp' → (w2.alloc (.cells #[u] 22)).grownBy w' v.ownBlock → (∀ k, k ∈ (Value.slice p (out.length + 1) q).ownBlock.toList ++ fp' → k ∈ v.ownBlock.toList ++ fp ∨ wr.heap.size ≤ k) → Below B (w2.alloc (.cells #[u] 22)) w' → wpList Tryd.prog ops Q rest (a.put o.dst (.slice p (out.length + 1) q)) w') : wpList Tryd.prog ops Q (o :: rest) a (w2.alloc (.cells #[u] 22)) :=
  wpList_append_blkG hgd s x ho hO (hu.stay (alloc_below _ _)) (Below.step hb (alloc_below _ _)) (Arr.new w2 [u] 22) hs hx hB hn h
theorem Cod.rowS {α : Type} (c : Cod α) {w : World} {B : Nat} {a : α} {vs : List Value} {fp : List Nat} (h : c.own w B a vs fp) {g : Nat} (hg : g < B) (us : Array Value) : c.own (w.setRow g us) B a vs fp := c.fr h fun k hk => setRow_other w g k us (by have := (c.ins h k hk).1; omega)
theorem ctx_small {l : List (List UInt8)} (h : ∀ c ∈ l, ctxB c = true) {k : Nat} {a : List UInt8} (ha : l[k]? = some a) : a.length ≤ 20 := (ctxB_parts (h a (List.mem_of_getElem? ha))).2
end Go.Proofs.YtflhoefocjmihaaDoor

/- RevokeIn, TimeIn and AskContext of the program, at every argument (written by tools/ses_o.py). What was there stays. -/
namespace Go.Proofs.YtflhoefocjmihaaDoor
open Go.ChangeShapes Go.WideShapes Go.ChangeAt Go.RowKit

def rvD (x : SesD) (id : Int) : SessionResultD := if rvC hdC x id = 0 then (0, 0, revN x id) else (rvC hdC x id, 0, zeroSes)
def tmD (x : SesD) (now : Int) : SessionResultD := if tmC hdC x now = 0 then (0, 0, timN x now) else (tmC hdC x now, 0, zeroSes)
def acD (x : SesD) (c : List UInt8) : SessionResultD := if acC hdC x c = 0 then (0, 0, askN x c) else (acC hdC x c, 0, zeroSes)
theorem lkH_go {l : List HeldD} {id : Int} : lkH (goN l id) = fun j => if j = id then none else lkH l j := by
  funext j
  unfold lkH goN
  induction l with
  | nil => simp
  | cons a l ih =>
    by_cases h1 : a.1 = id
    · rw [List.filter_cons_of_neg (by simp [h1]), ih]
      by_cases h2 : j = id
      · rw [if_pos h2, if_pos h2]
      · have h3 : (a.1 == j) = false := by rw [beq_eq_false_iff_ne, h1]; exact fun e => h2 e.symm
        rw [if_neg h2, if_neg h2]
        simp [h3]
    · rw [List.filter_cons_of_pos (by simp [h1])]
      by_cases h4 : a.1 = j
      · have h5 : ¬ j = id := fun e => h1 (h4.trans e)
        rw [if_neg h5]
        simp [h4]
      · have h3 : (a.1 == j) = false := by rw [beq_eq_false_iff_ne]; exact h4
        simp only [List.find?_cons, h3]
        exact ih
theorem goN_ok {l : List HeldD} {id : Int} (h : ∀ a ∈ l, okH a = true) : ∀ a ∈ goN l id, okH a = true := fun a ha => h a (List.mem_filter.1 ha).1
theorem goN_rise {l : List HeldD} {id : Int} (h : Rise l) : Rise (goN l id) := List.Pairwise.filter _ h
theorem goN_le (l : List HeldD) (id : Int) : (goN l id).length ≤ l.length := List.length_filter_le _ _
/-- What is held behind the first k that were looked at. -/
def nowK (l : List HeldD) (now : Int) (k : Nat) : List HeldD := nowN (l.take k) now ++ l.drop k
theorem nowK_zero (l : List HeldD) (now : Int) : nowK l now 0 = l := by simp [nowK, nowN]
theorem nowK_end (l : List HeldD) (now : Int) : nowK l now l.length = nowN l now := by simp [nowK]
theorem nowK_keep {l : List HeldD} {now : Int} {k : Nat} {a : HeldD} (ha : l[k]? = some a) (h : now ≤ a.2) : nowK l now (k + 1) = nowK l now k := by
  unfold nowK nowN
  rw [List.take_add_one, ha, drop_at ha, List.filter_append]
  simp [h]
theorem nowK_rise {l : List HeldD} {now : Int} {k : Nat} (h : Rise l) : Rise (nowK l now k) := by
  have h2 : (nowK l now k).Sublist l := by
    unfold nowK nowN
    conv => rhs; rw [← List.take_append_drop k l]
    exact List.Sublist.append List.filter_sublist (List.Sublist.refl _)
  exact List.Pairwise.sublist h2 h
theorem nowK_go {l : List HeldD} {now : Int} {k : Nat} {a : HeldD} (hr : Rise l) (ha : l[k]? = some a) (h : a.2 < now) : goN (nowK l now k) a.1 = nowK l now (k + 1) := by
  obtain ⟨hk, he⟩ := List.getElem?_eq_some_iff.1 ha
  have n1 : ∀ x ∈ l.take k, ¬ x.1 = a.1 := fun x hx e => by
    obtain ⟨j, hj⟩ := List.mem_iff_getElem?.1 hx
    have hjk : j < k := by
      have := (List.getElem?_eq_some_iff.1 hj).1
      rw [List.length_take] at this
      omega
    rw [List.getElem?_take_of_lt hjk] at hj
    obtain ⟨hj1, hj2⟩ := List.getElem?_eq_some_iff.1 hj
    have := List.pairwise_iff_getElem.1 hr j k hj1 hk hjk
    rw [hj2, he] at this; omega
  have n2 : ∀ x ∈ l.drop (k + 1), ¬ x.1 = a.1 := fun x hx e => by
    obtain ⟨j, hj⟩ := List.mem_iff_getElem?.1 hx
    rw [List.getElem?_drop] at hj
    obtain ⟨hj1, hj2⟩ := List.getElem?_eq_some_iff.1 hj
    have := List.pairwise_iff_getElem.1 hr k (k + 1 + j) hk hj1 (by omega)
    rw [hj2, he] at this; omega
  have h3 : ¬ now ≤ a.2 := by omega
  have e1 : goN (nowN (l.take k) now) a.1 = nowN (l.take k) now := List.filter_eq_self.2 fun x hx => by simpa using n1 x (List.mem_filter.1 hx).1
  have e2 : goN (l.drop (k + 1)) a.1 = l.drop (k + 1) := List.filter_eq_self.2 fun x hx => by simpa using n2 x hx
  have e3 : nowN (l.take (k + 1)) now = nowN (l.take k) now := by
    unfold nowN
    rw [List.take_add_one, ha, List.filter_append]
    simp [h3]
  unfold nowK
  rw [e3, drop_at ha]
  show (nowN (l.take k) now ++ a :: l.drop (k + 1)).filter _ = _
  rw [List.filter_append, List.filter_cons_of_neg (by simp)]
  show goN _ _ ++ goN _ _ = _
  rw [e1, e2]
end Go.Proofs.YtflhoefocjmihaaDoor

