/- From what a row says of an argument (it reads as data of its type) to how it lies in memory ('Cod'): numbers, bytes, structs, lists. No program in it. -/
import Derived.Test.YtbaldmmbphbinaaGreatDoorJoint4
import Derived.OpenShut
import Derived.ChangeSlices
import Derived.Deep.Slices
import Derived.BigQuiet
import Derived.Test.YtbaldmmbphbinaaGreatDoorJoint1
import Derived.Deep.Quiet
namespace Go.Proofs.YtbaldmmbphbinaaGreatDoor
open Go.ChangeShapes Go.WideShapes Go.RowKit

/-- Cells that read as data of this type are cells of this kind of data. -/
def Opens {α : Type} {H : Type} (enc : TypeId × Value → H) (P : Program) (w : World) (c : Cod α) (t : TypeId) : Prop :=
  ∀ (fuel : Nat) (cs : List Value) (x : DataW H × List MemPlace), DataW.trod enc P w 0 (fun _ => true) true fuel t cs = some x → ∃ a, c.rep w a cs

section
variable {H : Type} {enc : TypeId × Value → H} {P : Program} {w : World}

theorem opens_int {t : TypeId} {k : IntKind} (ht : P.underlying t = some (.int k)) : Opens enc P w (intC k) t := fun fuel cs x h => by
  cases fuel with
  | zero => simp [DataW.trod] at h
  | succ fuel =>
    unfold DataW.trod at h
    rw [ht] at h
    split at h <;> simp_all
    obtain ⟨⟨rfl, -⟩, -⟩ := h
    exact ⟨_, rfl⟩

theorem opens_bytes {t e : TypeId} (ht : P.underlying t = some (.slice e)) (he : P.underlying e = some (.int .u8)) (hc : P.cellsOf e = 1) : Opens enc P w bytC t := fun fuel cs x h => by
  rcases open_ints ht he hc h with ⟨hcs, -⟩ | ⟨ad, l, c, zs, hcs, _, hl, hm, hz, _, hcell, hwz⟩
  · exact ⟨[], none, 0, hcs, by simp, by simp [maxLen], fun _ => rfl, fun hp => by simp at hp⟩
  · obtain ⟨bs, e1, r⟩ := rd_of (w := w) (a := some ad) (len := l) (cap := c) (zs := zs) (.inr ⟨ad, rfl, hl, hm, by simpa using hz, hcell, hwz⟩)
    exact ⟨bs, some ad, c, by rw [← e1]; exact hcs, r⟩

theorem cells_at {a : Addr} {n : Nat} {cs : List Value} (h : w.cells? 0 a n = some cs) : cs.length = n ∧ ∀ j u, cs[j]? = some u → w.cell? (a.add j) = some u := by
  obtain ⟨-, hl, hc⟩ := World.cells?_some h
  refine ⟨hl, fun j u hj => ?_⟩
  have hlt := (List.getElem?_eq_some_iff.1 hj).1
  rw [← hj]
  exact hc j (by omega)

theorem opens_list {α : Type} {t e e' : TypeId} {c : Cod α} (ht : P.underlying t = some (.slice e)) (hc : P.cellsOf e = c.n) (hp : 0 < c.n) (ho : Opens enc P w c e) : Opens enc P w (listC e' c) t := fun fuel cs x h => by
  classical
  rcases Go.Deep.open_slice ht h with ⟨hcs, -⟩ | ⟨ad, len, cap, m, n, D, Pl, hcs, _, hl, hm, hmm, _, hx⟩
  · exact ⟨[], none, 0, hcs, by simp, by simp [maxLen], fun _ => rfl, fun hp => by simp at hp⟩
  · have hm' : m = cap := by rw [hmm]; simp
    have key : ∀ i, i < len → ∃ y : α × List Value, c.rep w y.1 y.2 ∧ ∀ j u, y.2[j]? = some u → w.cell? (ad.add (i * c.n + j)) = some u := fun i hi => by
      obtain ⟨cs', h1, h2⟩ := hx i (by omega)
      obtain ⟨a, ha⟩ := ho _ _ _ h2
      rw [hc] at h1
      refine ⟨(a, cs'), ha, fun j u hj => ?_⟩
      rw [← Go.Deep.add_add]
      exact (cells_at h1).2 j u hj
    have hlist : ∀ k, k ≤ len → ∃ l : List α, l.length = k ∧ ∀ i a, l[i]? = some a → ∃ us, c.rep w a us ∧ ∀ j u, us[j]? = some u → w.cell? (ad.add (i * c.n + j)) = some u := by
      intro k
      induction k with
      | zero => exact fun _ => ⟨[], rfl, fun i a hi => by simp at hi⟩
      | succ k ih =>
        intro hk
        obtain ⟨l, hll, hlc⟩ := ih (by omega)
        obtain ⟨y, hy, hyc⟩ := key k (by omega)
        refine ⟨l ++ [y.1], by simp [hll], fun i a hi => ?_⟩
        by_cases hik : i < l.length
        · rw [List.getElem?_append_left hik] at hi
          exact hlc i a hi
        · rw [List.getElem?_append_right (by omega)] at hi
          have hi0 : i - l.length = 0 := by
            have := (List.getElem?_eq_some_iff.1 hi).1
            simp at this; omega
          rw [hi0] at hi
          simp at hi
          subst hi
          have hik' : i = k := by omega
          subst hik'
          exact ⟨y.2, hy, hyc⟩
    obtain ⟨l, hll, hlc⟩ := hlist len (Nat.le_refl _)
    subst hll
    refine ⟨l, some ad, cap, hcs, hl, hm, fun e => by simp at e, fun hp0 => ?_⟩
    obtain ⟨b, o, sp⟩ := ad
    obtain ⟨a0, ha0⟩ : ∃ a, l[0]? = some a := ⟨l[0], by simp [hp0]⟩
    obtain ⟨us, hr, hu⟩ := hlc 0 a0 ha0
    have hul := c.len hr
    have h0 := hu 0 (us[0]'(by omega)) (by simp)
    have hsp : sp = none := by
      have := World.cell?_spot h0
      simpa [Addr.add] using this
    subst hsp
    refine ⟨b, o, rfl, fun i a hi => ?_⟩
    obtain ⟨us, hr, hu⟩ := hlc i a hi
    refine ⟨us, hr, fun j u hj => ?_⟩
    have := hu j u hj
    rw [addr_add, ← Nat.add_assoc] at this
    exact this

/-- Fields from an offset on. -/
def OpensF {α : Type} {H : Type} (enc : TypeId × Value → H) (P : Program) (w : World) (c : Cod α) (off : Nat) (fs : List Field) : Prop :=
  ∀ (fuel : Nat) (cs : List Value) (xs : List (DataW H × List MemPlace)), cs.length = off + c.n → (fs.mapM fun f => DataW.trod enc P w 0 (fun _ => true) true fuel f.type ((cs.drop f.offset).take (P.cellsOf f.type))) = some xs → ∃ a, c.rep w a (cs.drop off)

theorem opensF_one {α : Type} {c : Cod α} {off : Nat} {f : Field} (hf : f.offset = off) (hn : P.cellsOf f.type = c.n) (h : Opens enc P w c f.type) : OpensF enc P w c off [f] := fun fuel cs xs hl hx => by
  simp only [List.mapM_cons, List.mapM_nil, Option.pure_def, Option.bind_eq_bind, Option.bind_eq_some_iff] at hx
  obtain ⟨x, hx1, -⟩ := hx
  rw [hf, hn, List.take_of_length_le (by rw [List.length_drop]; omega)] at hx1
  exact h _ _ _ hx1
theorem opensF_cons {α β : Type} {c : Cod α} {d : Cod β} {off : Nat} {f : Field} {fs : List Field} (hf : f.offset = off) (hn : P.cellsOf f.type = c.n) (h : Opens enc P w c f.type) (hs : OpensF enc P w d (off + c.n) fs) : OpensF enc P w (prodC c d) off (f :: fs) := fun fuel cs xs hl hx => by
  simp only [List.mapM_cons, Option.pure_def, Option.bind_eq_bind, Option.bind_eq_some_iff] at hx
  obtain ⟨x, hx1, ys, hys, -⟩ := hx
  rw [hf, hn] at hx1
  obtain ⟨a, ha⟩ := h _ _ _ hx1
  obtain ⟨b, hb⟩ := hs fuel cs ys (by rw [hl]; show off + (c.n + d.n) = _; omega) hys
  refine ⟨(a, b), _, _, ?_, ha, hb⟩
  rw [← List.drop_drop, List.take_append_drop]
theorem opens_struct {α : Type} {t : TypeId} {c : Cod α} {fs : Array Field} (ht : P.underlying t = some (.struct fs)) (hn : P.cellsOf t = c.n) (h : OpensF enc P w c 0 fs.toList) : Opens enc P w c t := fun fuel cs x hx => by
  cases fuel with
  | zero => simp [DataW.trod] at hx
  | succ fuel =>
    unfold DataW.trod at hx
    rw [ht] at hx
    simp only [hn] at hx
    split at hx
    · rename_i hl
      obtain ⟨xs, hxs, -⟩ := Option.map_eq_some_iff.1 hx
      obtain ⟨a, ha⟩ := h fuel cs xs (by rw [Nat.zero_add]; exact hl) hxs
      exact ⟨a, by simpa using ha⟩
    · cases hx
end
end Go.Proofs.YtbaldmmbphbinaaGreatDoor

/- What is known of a stretch of memory, for the walks of the 'exact' laws: a fact that hangs on the blocks from lo up to hi alone (Win), and what a call that writes in one stretch alone leaves (Seg). No program in it. -/
namespace Go.Proofs.YtbaldmmbphbinaaGreatDoor
open Go.RowKit

structure Win (F : World → Prop) (lo hi : Nat) (w : World) : Prop where
  now : F w
  top : hi ≤ w.heap.size
  fr : ∀ w' : World, (∀ k, lo ≤ k → k < hi → w'.heap[k]? = w.heap[k]?) → F w'
/-- Just the blocks from lo up to hi may be other than they were. -/
structure Seg (lo hi : Nat) (w w' : World) : Prop where
  os : w'.os = w.os
  tape : w'.tape = w.tape
  output : w'.output = w.output
  size : w.heap.size ≤ w'.heap.size
  block : ∀ k, k < w.heap.size → (k < lo ∨ hi ≤ k) → w'.heap[k]? = w.heap[k]?

theorem Win.move {F : World → Prop} {lo hi : Nat} {w w' : World} (h : Win F lo hi w) (ht : w.heap.size ≤ w'.heap.size) (hs : ∀ k, lo ≤ k → k < hi → w'.heap[k]? = w.heap[k]?) : Win F lo hi w' :=
  ⟨h.fr w' hs, Nat.le_trans h.top ht, fun w'' h2 => h.fr w'' fun k h3 h4 => (h2 k h3 h4).trans (hs k h3 h4)⟩
theorem Win.stay {F : World → Prop} {lo hi : Nat} {w w' : World} (h : Win F lo hi w) (hb : Below w.heap.size w w') : Win F lo hi w' :=
  h.move hb.size fun k _ h2 => hb.block k (Nat.lt_of_lt_of_le h2 h.top)
theorem Win.seg {F : World → Prop} {lo hi a b : Nat} {w w' : World} (h : Win F lo hi w) (hs : Seg a b w w') (hd : hi ≤ a ∨ b ≤ lo) : Win F lo hi w' :=
  h.move hs.size fun k h1 h2 => hs.block k (Nat.lt_of_lt_of_le h2 h.top) (by omega)
theorem Below.seg {W a b : World} {lo hi : Nat} (h : Below W.heap.size W a) (hs : Seg lo hi a b) (hl : W.heap.size ≤ lo) : Below W.heap.size W b :=
  ⟨hs.os.trans h.os, hs.tape.trans h.tape, hs.output.trans h.output, Nat.le_trans h.size hs.size, fun k hk => (hs.block k (Nat.lt_of_lt_of_le hk h.size) (by omega)).trans (h.block k hk)⟩
theorem Only.seg {fp : List Nat} {lo hi : Nat} {w w' : World} (h : Only fp w w') (hin : ∀ k, k ∈ fp → lo ≤ k ∧ k < hi) : Seg lo hi w w' :=
  ⟨h.os, h.tape, h.output, h.size, fun k hk hn => h.block k hk fun e => by have := hin k e; omega⟩
theorem grown_seg {row : Option Nat} {lo hi : Nat} {w w' : World} (h : w.grownBy w' row) (hin : ∀ k, k ∈ row.toList → lo ≤ k ∧ k < hi) : Seg lo hi w w' := (Only.grown h).seg hin

/-- Bytes of one's own; where they lie. -/
theorem Own.win {w : World} {B lo hi : Nat} {v : Value} {bs : List UInt8} (h : Own w B v bs) (ht : hi ≤ w.heap.size) (hin : ∀ k, k ∈ v.ownBlock.toList → lo ≤ k ∧ k < hi) : Win (fun w => Own w B v bs) lo hi w :=
  ⟨h, ht, fun w' hs => by
    have h2 : bytC.own w' B bs [v] v.ownBlock.toList := bytC.fr (w := w) ⟨v, rfl, h, rfl⟩ fun k hk => hs k (hin k hk).1 (hin k hk).2
    obtain ⟨v', e, h3, -⟩ := h2
    simp only [List.cons.injEq, and_true] at e
    rw [e]
    exact h3⟩
theorem Own.ins {w : World} {B : Nat} {v : Value} {bs : List UInt8} (h : Own w B v bs) : ∀ k, k ∈ v.ownBlock.toList → B ≤ k ∧ k < w.heap.size := fun k hk => ⟨h.ge k (mem_opt.1 hk), h.lt k (mem_opt.1 hk)⟩
theorem OwnL.win {α : Type} {e : TypeId} {c : Cod α} {w : World} {B lo hi : Nat} {v : Value} {l : List α} {xs : List Value} {fp : List Nat} (h : OwnL e c w B v l xs fp) (ht : hi ≤ w.heap.size) (hin : ∀ k, k ∈ v.ownBlock.toList ++ fp → lo ≤ k ∧ k < hi) : Win (fun w => OwnL e c w B v l xs fp) lo hi w :=
  ⟨h, ht, fun _ hs => h.fr fun k hk => hs k (hin k hk).1 (hin k hk).2⟩
theorem RdL.own {α : Type} {e : TypeId} {c : Cod α} {w : World} {B n q : Nat} {p : Option Addr} {l : List α} {xs : List Value} {fp : List Nat} (h : OwnL e c w B (.slice p n q) l xs fp) : RdL c w p q l := by
  obtain ⟨p', q', e1, hr⟩ := h.rd
  simp only [Value.slice.injEq] at e1
  obtain ⟨rfl, -, rfl⟩ := e1
  exact hr
/-- Data of whatever kind. -/
theorem Cod.own.ins {α : Type} {c : Cod α} {w : World} {B : Nat} {a : α} {us : List Value} {fp : List Nat} (h : c.own w B a us fp) : ∀ k, k ∈ fp → B ≤ k ∧ k < w.heap.size := c.ins h
theorem Cod.own.win {α : Type} {c : Cod α} {w : World} {B lo hi : Nat} {a : α} {us : List Value} {fp : List Nat} (h : c.own w B a us fp) (ht : hi ≤ w.heap.size) (hin : ∀ k, k ∈ fp → lo ≤ k ∧ k < hi) : Win (fun w => c.own w B a us fp) lo hi w :=
  ⟨h, ht, fun _ hs => c.fr h fun k hk => hs k (hin k hk).1 (hin k hk).2⟩
/-- A local's cells. -/
theorem Has.win {w : World} {b : Nat} {v : Value} {vs : List Value} (h : Has w b (v :: vs)) : Win (fun w => Has w b (v :: vs)) b (b + 1) w :=
  ⟨h, h.lt, fun _ hs i u hu => by
    rw [World.cell?_of_block (a := ⟨b, i, none⟩) (hs b (Nat.le_refl _) (Nat.lt_succ_self _))]
    exact h i u hu⟩
end Go.Proofs.YtbaldmmbphbinaaGreatDoor

/- A region that draws its order, walked once in the order of the text, where all worlds that may come up hold the same cells and leave what lay before, and every call gives one value and leaves what it found. No program in it. -/
namespace Go.Proofs.YtbaldmmbphbinaaGreatDoor
open Go Go.RowKit

/-- A world in which all that lay in V is left. -/
structure HW (V : World) where
  w : World
  h : Below V.heap.size V w

theorem HW.at {V : World} {p : Addr} {v : Value} (h : V.cell? p = some v) : ∀ s : HW V, s.w.cell? p = some v := fun s => cell_keep h s.h
theorem HW.out {V w : World} (h : ∃ s : HW V, w = s.w) : Below V.heap.size V w := by
  obtain ⟨s, rfl⟩ := h
  exact s.h
theorem HW.some (V : World) : Nonempty (HW V) := ⟨⟨V, Below.refl _ _⟩⟩

theorem HW.down {V w' : World} {p : Addr} {v : Value} (h : ∀ s : HW V, s.w.cell? p = Option.some v) (hb : Below V.heap.size V w') : ∀ s : HW w', s.w.cell? p = Option.some v := HW.at (h ⟨w', hb⟩)
theorem wp_region_class {P : Program} {id : Nat} {Q : Exit → Act → World → Prop} {a : Act} {V : World} {l : List Oper}
    (hm : P.follows .mixedOrders = true) (hB : Region.lexB .any l.toArray = true)
    (h : wpQuiet P l.toArray (fun w' => ∃ s : HW V, w' = s.w) (fun a' => ∀ w', (∃ s : HW V, w' = s.w) → Q .normal a' w') l a) : (Code.region id l.toArray true).wp P Q a V :=
  wp_region_quiet (C := fun w' => ∃ s : HW V, w' = s.w) hm hB ⟨⟨V.drew, (Below.refl _ _).drew⟩, rfl⟩ (by simpa using h)

/-- A call that leaves what was there. -/
theorem Calls.stay {P : Program} {V : World} {f : FuncId} {args : Array Value} {v : Value} {s : HW V}
    (h : Calls P f args s.w fun e w' => e = .returned v ∧ Below s.w.heap.size s.w w') : Calls P f args s.w fun e w'' => e = .returned v ∧ ∃ s' : HW V, w'' = s'.w :=
  h.mono fun _ w'' ⟨he, hb⟩ => ⟨he, ⟨w'', Below.step s.h hb⟩, rfl⟩
theorem Calls.stay_same {P : Program} {V : World} {f : FuncId} {args : Array Value} {v : Value} {s : HW V}
    (h : Calls P f args s.w fun e w' => e = .returned v ∧ w' = s.w) : Calls P f args s.w fun e w'' => e = .returned v ∧ ∃ s' : HW V, w'' = s'.w :=
  h.mono fun _ _ ⟨he, hb⟩ => ⟨he, s, hb⟩

/-- A quiet region behind another one: the draws add up. -/
theorem wp_region_again {P : Program} {id : Nat} {Q : Exit → Act → World → Prop} {a : Act} {V : World} {k : Nat} {l : List Oper}
    (hm : P.follows .mixedOrders = true) (hB : Region.lexB .any l.toArray = true)
    (h : wpQuiet P l.toArray (fun w' => ∃ n, w' = V.drewN n) (fun a' => ∀ w', (∃ n, w' = V.drewN n) → Q .normal a' w') l a) : (Code.region id l.toArray true).wp P Q a (V.drewN k) :=
  wp_region_quiet (C := fun w' => ∃ n, w' = V.drewN n) hm hB ⟨k + 1, rfl⟩ (by simpa using h)

end Go.Proofs.YtbaldmmbphbinaaGreatDoor

/- A region that draws its order, all of whose operations but the last one are quiet in a class of worlds, where the last one (a store) waits for all the others: one walk in the order of the text serves every order. Beside Derived/Deep/Quiet.lean's theorem, whose two long proofs are taken over for this case. No program in it. -/
namespace Go.Proofs.YtbaldmmbphbinaaGreatDoor
open Go Go.RowKit

section
variable {P : Program} {ops : Array Oper} {md : Region.Mode} {C : World → Prop} {Q' : Exit → Act → World → Prop} {last : Nat}

def lexT (md : Region.Mode) (ops : Array Oper) : Nat → Nat → Array Bool → Bool
  | 0, k, listed => (Region.ready md ops listed == [k]) && (Region.ready md ops (listed.setIfInBounds k true)).isEmpty
  | n + 1, k, listed => (Region.ready md ops listed).contains k && Region.free md ops listed k && lexT md ops n (k + 1) (listed.setIfInBounds k true)

def waitsAll (md : Region.Mode) (ops : Array Oper) (last : Nat) : Bool :=
  match ops[last]? with
  | none => false
  | some o => (List.range last).all fun i => o.after.toList.any fun e => Region.binds md e && e.on == i

theorem waitsAll_spec (h : waitsAll md ops last = true) {listed : Array Bool} (hr : last ∈ Region.ready md ops listed) {i : Nat} (hi : i < last) : listed.getD i false = true := by
  obtain ⟨-, o, ho, hall⟩ := mem_ready.1 hr
  unfold waitsAll at h
  simp only [ho, List.all_eq_true, List.mem_range] at h
  obtain ⟨e, he, hb⟩ := List.any_eq_true.1 (h i hi)
  simp only [Bool.and_eq_true, beq_iff_eq] at hb
  have := hall e (by simpa using he) hb.1
  rw [hb.2] at this
  exact this

/-- What is asked of the last operation, in every world of the class. -/
def tailAsk (P : Program) (ops : Array Oper) (C : World → Prop) (Q' : Exit → Act → World → Prop) (last : Nat) (a : Act) : Prop :=
  ∀ w, C w → ∀ K : Act → World → Prop, (∀ a' w', Q' .normal a' w' → K a' w') → wpOp P ops Q' last K a w

def wpAnyT (P : Program) (md : Region.Mode) (ops : Array Oper) (C : World → Prop) (Q' : Exit → Act → World → Prop) (last : Nat) : Nat → Array Bool → Act → Prop
  | 0, listed, a => Region.ready md ops listed = [last] ∧ Region.ready md ops (listed.setIfInBounds last true) = [] ∧ tailAsk P ops C Q' last a
  | fuel + 1, listed, a => Region.ready md ops listed ≠ [] ∧ ∀ i ∈ Region.ready md ops listed, qOp P ops C i (wpAnyT P md ops C Q' last fuel (listed.setIfInBounds i true)) a

theorem wpAny_of_T : ∀ (fuel : Nat) (listed : Array Bool) (a : Act) (w : World), C w → wpAnyT P md ops C Q' last fuel listed a → wpAny P md ops Q' (fuel + 1) listed a w
  | 0, _, _, _, hw, h => ⟨fun h0 => (by rw [h.1] at h0; cases h0), fun i hi => by
      rw [h.1] at hi
      rw [List.mem_singleton.1 hi]
      exact h.2.2 _ hw _ (fun a' w' hq => ⟨h.2.1, hq⟩)⟩
  | fuel + 1, _, _, _, hw, h => ⟨fun h0 => absurd h0 h.1, fun i hi => wpOp_of_qOp hw (fun a' w' hw' => wpAny_of_T fuel _ a' w' hw') (h.2 i hi)⟩

theorem wpAnyT_first (hlast : waitsAll md ops last = true) {i : Nat} {oi : Oper} {v : Value} (hi : ops[i]? = some oi) (hil : i < last) (hsel : ∀ (j : Nat) (o : Oper) cs b, ops[j]? = some o → o.op ≠ .select cs b) :
    ∀ (fuel : Nat) (listed : Array Bool) (a : Act),
      (∀ j oj, ops[j]? = some oj → j ≠ i → listed.getD j true = false → (∀ e ∈ oj.after, Region.binds md e = true → e.on ≠ i) → oi.apart ops oj = true) →
      i ∈ Region.ready md ops listed → YieldsIn P ops C oi v a →
      wpAnyT P md ops C Q' last fuel (listed.setIfInBounds i true) (a.put oi.dst v) → wpAnyT P md ops C Q' last (fuel + 1) listed a := by
  intro fuel
  induction fuel with
  | zero =>
    intro listed a _ hr hy H
    refine ⟨fun h => (by rw [h] at hr; cases hr), fun j hj => ?_⟩
    by_cases hji : j = i
    · subst hji; exact hy.qOp hi H
    · have h1 := ready_mono hj hji
      rw [H.1] at h1
      have h2 := List.mem_singleton.1 h1
      subst h2
      have h3 := waitsAll_spec hlast hj hil
      have h4 := (mem_ready.1 hr).1
      rcases Nat.lt_or_ge i listed.size with h' | h'
      · simp [h'] at h3 h4; rw [h3] at h4; cases h4
      · simp [Array.getElem?_eq_none h'] at h3
  | succ fuel ih =>
    intro listed a hfree hr hy H
    refine ⟨fun h => (by rw [h] at hr; cases hr), fun j hj => ?_⟩
    by_cases hji : j = i
    · subst hji; exact hy.qOp hi H
    · have h1 := H.2 j (ready_mono hj hji)
      obtain ⟨hjun, oj, hoj, hall⟩ := mem_ready.1 hj
      have hnot : ∀ e ∈ oj.after, Region.binds md e = true → e.on ≠ i := fun e he hb heq => by
        have h1 := hall e he hb
        have h0 := (mem_ready.1 hr).1
        rw [heq] at h1
        rcases Nat.lt_or_ge i listed.size with h' | h'
        · simp [h'] at h0 h1; rw [h0] at h1; cases h1
        · simp [Array.getElem?_eq_none h'] at h1
      have h2 := qOp_put hoj (hfree j oj hoj hji hjun hnot) (fun cs b => hsel i oi cs b hi) (fun cs b => hsel j oj cs b hoj) hy h1
      have hfree' : ∀ k ok, ops[k]? = some ok → k ≠ i → (listed.setIfInBounds j true).getD k true = false →
          (∀ e ∈ ok.after, Region.binds md e = true → e.on ≠ i) → oi.apart ops ok = true := fun k ok hk hki hun hno => by
        refine hfree k ok hk hki ?_ hno
        by_cases hjk : j = k
        · subst hjk; exact hjun
        · rw [getD_set_ne true hjk] at hun; exact hun
      refine qOp_mono (fun a' h3 => ih (listed.setIfInBounds j true) a' hfree' (ready_mono hr (Ne.symm hji)) h3.1 ?_) h2
      rw [Array.setIfInBounds_comm _ _ hji]
      exact h3.2

theorem wpAnyT_lex (hlast : waitsAll md ops last = true) (hs : Region.noSelect ops = true) : ∀ (l : List Oper) (k : Nat) (listed : Array Bool) (a : Act), (∀ j, j < l.length → l[j]? = ops[k + j]?) → k + l.length = last →
    lexT md ops l.length k listed = true → wpQuiet P ops C (tailAsk P ops C Q' last) l a → wpAnyT P md ops C Q' last l.length listed a
  | [], k, _, _, _, hk, hB, h => by
    simp only [List.length_nil, Nat.add_zero] at hk
    subst hk
    simp only [List.length_nil, lexT, Bool.and_eq_true, beq_iff_eq, List.isEmpty_iff] at hB
    exact ⟨hB.1, hB.2, h⟩
  | o :: l, k, listed, a, hl, hk, hB, h => by
    have h0 : ops[k]? = some o := by simpa using (hl 0 (by simp)).symm
    simp only [List.length_cons, lexT, Bool.and_eq_true] at hB
    obtain ⟨⟨hr, hf⟩, hB'⟩ := hB
    have hst : qOp P ops C k (wpQuiet P ops C (tailAsk P ops C Q' last) l) a := by unfold qOp; simp only [h0]; exact h
    obtain ⟨v, hy, hK⟩ := yieldsIn_of_qOp h0 hst
    exact wpAnyT_first hlast h0 (by simp at hk; omega) (Region.noSelect_spec hs) l.length listed a (Region.free_spec h0 hf) (by simpa using hr) hy
      (wpAnyT_lex hlast hs l (k + 1) _ _ (fun j hj => by have := hl (j + 1) (by simpa using hj); simpa [Nat.add_assoc, Nat.add_comm 1 j] using this) (by simp at hk; omega) hB' hK)
end

theorem wpQuiet_mono {P : Program} {ops : Array Oper} {C : World → Prop} {Q Q' : Act → Prop} (h : ∀ a, Q a → Q' a) : ∀ (l : List Oper) (a : Act), wpQuiet P ops C Q l a → wpQuiet P ops C Q' l a
  | [], a, hh => h a hh
  | o :: l, a, hh => by
    unfold wpQuiet at *
    split
    · rename_i hw
      rw [if_pos hw] at hh
      exact Oper.quiet_mono (fun a' => wpQuiet_mono h l a') hh
    · rename_i hw
      rw [if_neg hw] at hh
      exact wpQuiet_mono h l _ hh

/-- All but the last operation quiet, the last one waits for all of them. -/
theorem wp_region_tail {P : Program} {ops : Array Oper} {C : World → Prop} {Q : Exit → Act → World → Prop} {a : Act} {w : World} {id : Nat} (n : Nat) {o : Oper} (hn : ops.size = n + 1) (ho : ops[n]? = some o) (hgd : o.guard = none)
    (hm : P.follows .mixedOrders = true) (hs : Region.noSelect ops = true) (hB : lexT .any ops n 0 (Array.replicate ops.size false) = true) (hw : waitsAll .any ops n = true) (hC : C { w with drawn := w.drawn + 1 })
    (h : wpQuiet P ops C (fun a' => ∀ w', C w' → ∀ K : Act → World → Prop, (∀ a'' w'', Q .normal a'' w'' → K a'' w'') → o.wp P a' w' K Q) (ops.toList.take n) a) : (Code.region id ops true).wp P Q a w := by
  refine wp_region_any hm ?_
  rw [hn]
  have hlen : (ops.toList.take n).length = n := by simp; omega
  have hq : wpQuiet P ops C (tailAsk P ops C Q n) (ops.toList.take n) a := by
    refine wpQuiet_mono (fun a' h1 => ?_) _ _ h
    intro w' hw' K hK
    unfold wpOp
    simp only [ho]
    rw [if_pos (by simp [Region.wanted, hgd])]
    exact .inl (h1 w' hw' K hK)
  have := wpAnyT_lex (Q' := Q) hw hs (ops.toList.take n) 0 (Array.replicate (n + 1) false) a (fun j hj => by rw [List.getElem?_take_of_lt (by omega)]; simp) (by omega) (by rw [hlen, ← hn]; exact hB) hq
  rw [hlen] at this
  exact wpAny_of_T n _ a _ hC this

end Go.Proofs.YtbaldmmbphbinaaGreatDoor

