/- Lists of contexts that are copied, and cut, in the program; a session that owns its memory (ownSession). What was there stays. -/
import Derived.Test.YthiabbgkfmopiaaGreatSesM
import Derived.Test.YthiabbgkfmopiaaGreatJoint12
import Derived.Test.YthiabbgkfmopiaaGreatJoint14
import Derived.Test.YthiabbgkfmopiaaGreatJoint19
namespace Go.Proofs.YthiabbgkfmopiaaGreat
open Go.ChangeShapes Go.WideShapes Go.ChangeAt Go.RowKit

/-- append(list, x) where the list owns its memory and x is newer than it. -/
theorem wpList_append_blkG {ops : Array Oper} {rest : List Oper} {o : Oper} {a : Act} {Q : Exit → Act → World → Prop} {wr wn : World} {B g : Nat} {v u : Value} {out : List (List UInt8)} {xs : List Value} {fp : List Nat} {bs : List UInt8} (hgd : o.guard = none) (s x : Operand)
    (ho : o.op = .call { callee := .builtin .append, args := #[s, x], argTypes := #[26, 26] })
    (hO : OwnL 51 bytC wr B v out xs fp) (hu : Own wn wr.heap.size u bs) (hb : Below wr.heap.size wr wn) (hA : Arr wn g 51 [u]) (hs : a.eval s = v) (hx : a.eval x = .slice (some ⟨g, 0, none⟩) 1 1) (hB : B ≤ wr.heap.size) (hn : out.length ≤ 1000)
    (h : ∀ p q w' xs' fp', OwnL 51 bytC w' B (.slice p (out.length + 1) q) (out ++ [bs]) xs' fp' → wn.grownBy w' v.ownBlock → (∀ k, k ∈ (Value.slice p (out.length + 1) q).ownBlock.toList ++ fp' → k ∈ v.ownBlock.toList ++ fp ∨ wr.heap.size ≤ k) → Below B wn w' → wpList Tryz.prog ops Q rest (a.put o.dst (.slice p (out.length + 1) q)) w') : wpList Tryz.prog ops Q (o :: rest) a wn := by
  obtain ⟨i0, hi, hz0, hz1, hz2⟩ := info_parts infoBlk
  obtain ⟨pu, qu, rfl, -⟩ := hu.rd
  obtain ⟨po, qo, rfl, -⟩ := hO.rd
  have ho5 := hO.stay hb
  have hins := hO.ins
  have hnew : ∀ j u, ([.slice pu bs.length qu] : List Value)[j]? = some u → wn.cell? ((⟨g, 0, none⟩ : Addr).add j) = some u := fun j u hj => hA.cells j u hj
  have hz : B ≤ wn.heap.size := Nat.le_trans hB hb.size
  refine wpList_append_lies _ hgd s x 26 ho B 51 i0 (.slice none 0 0) 1 24 Tryz.underlying26 hi hz0 hz1 hz2 rfl (by decide) _ out.length xs hs ho5.row ⟨g, 0, none⟩ 1 1 [.slice pu bs.length qu] hx rfl hnew (by intro u hu; simp at hu; subst hu; rfl) (by decide) (by unfold maxLen; omega) (by omega) hz _ rfl ?_
  intro g6 c6 w6 hown6 hgrow6 hat6 hlt6
  have ka := blk_own_mk (a := bs) (hu.lower (B' := B) hB)
  have OP := ho5.push ka (fun j hj hj2 => by
    have h1 := hu.ge j (mem_opt.1 hj)
    have h2 := (hins j hj2).2
    omega) (k := out.length + 1) (v' := .slice (some ⟨g6, 0, none⟩) (out.length + 1) c6) (g := g6) hown6 (by simp) hgrow6 rfl hat6
  refine h _ _ _ _ _ OP hgrow6 (fun k hk => ?_) ((Below.refl B _).grown hgrow6 hz (fun k hk => (hins k (List.mem_append_left _ (mem_opt.2 hk))).1))
  rcases List.mem_append.1 hk with hk | hk
  · have hg : k = g6 := (Option.some.inj (mem_opt.1 hk)).symm
    subst hg
    rcases hat6 with h1 | h1
    · exact .inl (List.mem_append_left _ (mem_opt.2 h1))
    · exact .inr (by rw [h1]; exact hb.size)
  · rcases List.mem_append.1 hk with hk | hk
    · exact .inl (List.mem_append_right _ hk)
    · exact .inr (hu.ge k (mem_opt.1 hk))
theorem wpList_append_blk {ops : Array Oper} {rest : List Oper} {o : Oper} {a : Act} {Q : Exit → Act → World → Prop} {wr w2 : World} {B : Nat} {v u : Value} {out : List (List UInt8)} {xs : List Value} {fp : List Nat} {bs : List UInt8} (hgd : o.guard = none) (s x : Operand)
    (ho : o.op = .call { callee := .builtin .append, args := #[s, x], argTypes := #[26, 26] })
    (hO : OwnL 51 bytC wr B v out xs fp) (hu : Own w2 wr.heap.size u bs) (hb : Below wr.heap.size wr w2) (hs : a.eval s = v) (hx : a.eval x = .slice (some ⟨w2.heap.size, 0, none⟩) 1 1) (hB : B ≤ wr.heap.size) (hn : out.length ≤ 1000)
    (h : ∀ p q w' xs' fp', OwnL 51 bytC w' B (.slice p (out.length + 1) q) (out ++ [bs]) xs' fp' → (w2.alloc (.cells #[u] 51)).grownBy w' v.ownBlock → (∀ k, k ∈ (Value.slice p (out.length + 1) q).ownBlock.toList ++ fp' → k ∈ v.ownBlock.toList ++ fp ∨ wr.heap.size ≤ k) → Below B (w2.alloc (.cells #[u] 51)) w' → wpList Tryz.prog ops Q rest (a.put o.dst (.slice p (out.length + 1) q)) w') : wpList Tryz.prog ops Q (o :: rest) a (w2.alloc (.cells #[u] 51)) :=
  wpList_append_blkG hgd s x ho hO (hu.stay (alloc_below _ _)) (Below.step hb (alloc_below _ _)) (Arr.new w2 [u] 51) hs hx hB hn h
theorem Cod.rowS {α : Type} (c : Cod α) {w : World} {B : Nat} {a : α} {vs : List Value} {fp : List Nat} (h : c.own w B a vs fp) {g : Nat} (hg : g < B) (us : Array Value) : c.own (w.setRow g us) B a vs fp := c.fr h fun k hk => setRow_other w g k us (by have := (c.ins h k hk).1; omega)
theorem ctx_small {l : List (List UInt8)} (h : ∀ c ∈ l, ctxB c = true) {k : Nat} {a : List UInt8} (ha : l[k]? = some a) : a.length ≤ 20 := (ctxB_parts (h a (List.mem_of_getElem? ha))).2
end Go.Proofs.YthiabbgkfmopiaaGreat

/- RevokeIn, TimeIn and AskContext of the program, at every argument (written by tools/ses_o.py). What was there stays. -/
namespace Go.Proofs.YthiabbgkfmopiaaGreat
open Go.ChangeShapes Go.WideShapes Go.ChangeAt Go.RowKit

def rvD (x : SesD) (id : Int) : SessionResultD := if rvC hdC x id = 0 then (0, 0, revN x id) else (rvC hdC x id, 0, zeroSes)
def tmD (x : SesD) (now : Int) : SessionResultD := if tmC hdC x now = 0 then (0, 0, timN x now) else (tmC hdC x now, 0, zeroSes)
def acD (x : SesD) (c : List UInt8) : SessionResultD := if acC hdC x c = 0 then (0, 0, askN x c) else (acC hdC x c, 0, zeroSes)
theorem lkH_go {l : List HeldD} {id : Int} : lkH (goN l id) = fun j => if j = id then none else lkH l j := by
  funext j
  unfold lkH goN
  induction l with
  | nil => simp
  | cons a l ih =>
    by_cases h1 : a.1 = id
    · rw [List.filter_cons_of_neg (by simp [h1]), ih]
      by_cases h2 : j = id
      · rw [if_pos h2, if_pos h2]
      · have h3 : (a.1 == j) = false := by rw [beq_eq_false_iff_ne, h1]; exact fun e => h2 e.symm
        rw [if_neg h2, if_neg h2]
        simp [h3]
    · rw [List.filter_cons_of_pos (by simp [h1])]
      by_cases h4 : a.1 = j
      · have h5 : ¬ j = id := fun e => h1 (h4.trans e)
        rw [if_neg h5]
        simp [h4]
      · have h3 : (a.1 == j) = false := by rw [beq_eq_false_iff_ne]; exact h4
        simp only [List.find?_cons, h3]
        exact ih
theorem goN_ok {l : List HeldD} {id : Int} (h : ∀ a ∈ l, okH a = true) : ∀ a ∈ goN l id, okH a = true := fun a ha => h a (List.mem_filter.1 ha).1
theorem goN_rise {l : List HeldD} {id : Int} (h : Rise l) : Rise (goN l id) := List.Pairwise.filter _ h
theorem goN_le (l : List HeldD) (id : Int) : (goN l id).length ≤ l.length := List.length_filter_le _ _
/-- What is held behind the first k that were looked at. -/
def nowK (l : List HeldD) (now : Int) (k : Nat) : List HeldD := nowN (l.take k) now ++ l.drop k
theorem nowK_zero (l : List HeldD) (now : Int) : nowK l now 0 = l := by simp [nowK, nowN]
theorem nowK_end (l : List HeldD) (now : Int) : nowK l now l.length = nowN l now := by simp [nowK]
theorem nowK_keep {l : List HeldD} {now : Int} {k : Nat} {a : HeldD} (ha : l[k]? = some a) (h : now ≤ a.2) : nowK l now (k + 1) = nowK l now k := by
  unfold nowK nowN
  rw [List.take_add_one, ha, drop_at ha, List.filter_append]
  simp [h]
theorem nowK_rise {l : List HeldD} {now : Int} {k : Nat} (h : Rise l) : Rise (nowK l now k) := by
  have h2 : (nowK l now k).Sublist l := by
    unfold nowK nowN
    conv => rhs; rw [← List.take_append_drop k l]
    exact List.Sublist.append List.filter_sublist (List.Sublist.refl _)
  exact List.Pairwise.sublist h2 h
theorem nowK_go {l : List HeldD} {now : Int} {k : Nat} {a : HeldD} (hr : Rise l) (ha : l[k]? = some a) (h : a.2 < now) : goN (nowK l now k) a.1 = nowK l now (k + 1) := by
  obtain ⟨hk, he⟩ := List.getElem?_eq_some_iff.1 ha
  have n1 : ∀ x ∈ l.take k, ¬ x.1 = a.1 := fun x hx e => by
    obtain ⟨j, hj⟩ := List.mem_iff_getElem?.1 hx
    have hjk : j < k := by
      have := (List.getElem?_eq_some_iff.1 hj).1
      rw [List.length_take] at this
      omega
    rw [List.getElem?_take_of_lt hjk] at hj
    obtain ⟨hj1, hj2⟩ := List.getElem?_eq_some_iff.1 hj
    have := List.pairwise_iff_getElem.1 hr j k hj1 hk hjk
    rw [hj2, he] at this; omega
  have n2 : ∀ x ∈ l.drop (k + 1), ¬ x.1 = a.1 := fun x hx e => by
    obtain ⟨j, hj⟩ := List.mem_iff_getElem?.1 hx
    rw [List.getElem?_drop] at hj
    obtain ⟨hj1, hj2⟩ := List.getElem?_eq_some_iff.1 hj
    have := List.pairwise_iff_getElem.1 hr k (k + 1 + j) hk hj1 (by omega)
    rw [hj2, he] at this; omega
  have h3 : ¬ now ≤ a.2 := by omega
  have e1 : goN (nowN (l.take k) now) a.1 = nowN (l.take k) now := List.filter_eq_self.2 fun x hx => by simpa using n1 x (List.mem_filter.1 hx).1
  have e2 : goN (l.drop (k + 1)) a.1 = l.drop (k + 1) := List.filter_eq_self.2 fun x hx => by simpa using n2 x hx
  have e3 : nowN (l.take (k + 1)) now = nowN (l.take k) now := by
    unfold nowN
    rw [List.take_add_one, ha, List.filter_append]
    simp [h3]
  unfold nowK
  rw [e3, drop_at ha]
  show (nowN (l.take k) now ++ a :: l.drop (k + 1)).filter _ = _
  rw [List.filter_append, List.filter_cons_of_neg (by simp)]
  show goN _ _ ++ goN _ _ = _
  rw [e1, e2]
end Go.Proofs.YthiabbgkfmopiaaGreat

