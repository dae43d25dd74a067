/- From what a row says of an argument (it reads as data of its type) to how it lies in memory ('Cod'): numbers, bytes, structs, lists. No program in it. -/
import Derived.Test.YthiabbgkfmopiaaGreatCod
import Derived.OpenShut
import Derived.ChangeSlices
import Derived.Deep.Slices
namespace Go.Proofs.YthiabbgkfmopiaaGreat
open Go.ChangeShapes Go.WideShapes Go.RowKit

/-- Cells that read as data of this type are cells of this kind of data. -/
def Opens {α : Type} {H : Type} (enc : TypeId × Value → H) (P : Program) (w : World) (c : Cod α) (t : TypeId) : Prop :=
  ∀ (fuel : Nat) (cs : List Value) (x : DataW H × List MemPlace), DataW.trod enc P w 0 (fun _ => true) true fuel t cs = some x → ∃ a, c.rep w a cs

section
variable {H : Type} {enc : TypeId × Value → H} {P : Program} {w : World}

theorem opens_int {t : TypeId} {k : IntKind} (ht : P.underlying t = some (.int k)) : Opens enc P w (intC k) t := fun fuel cs x h => by
  cases fuel with
  | zero => simp [DataW.trod] at h
  | succ fuel =>
    unfold DataW.trod at h
    rw [ht] at h
    split at h <;> simp_all
    obtain ⟨⟨rfl, -⟩, -⟩ := h
    exact ⟨_, rfl⟩

theorem opens_bytes {t e : TypeId} (ht : P.underlying t = some (.slice e)) (he : P.underlying e = some (.int .u8)) (hc : P.cellsOf e = 1) : Opens enc P w bytC t := fun fuel cs x h => by
  rcases open_ints ht he hc h with ⟨hcs, -⟩ | ⟨ad, l, c, zs, hcs, _, hl, hm, hz, _, hcell, hwz⟩
  · exact ⟨[], none, 0, hcs, by simp, by simp [maxLen], fun _ => rfl, fun hp => by simp at hp⟩
  · obtain ⟨bs, e1, r⟩ := rd_of (w := w) (a := some ad) (len := l) (cap := c) (zs := zs) (.inr ⟨ad, rfl, hl, hm, by simpa using hz, hcell, hwz⟩)
    exact ⟨bs, some ad, c, by rw [← e1]; exact hcs, r⟩

theorem cells_at {a : Addr} {n : Nat} {cs : List Value} (h : w.cells? 0 a n = some cs) : cs.length = n ∧ ∀ j u, cs[j]? = some u → w.cell? (a.add j) = some u := by
  obtain ⟨-, hl, hc⟩ := World.cells?_some h
  refine ⟨hl, fun j u hj => ?_⟩
  have hlt := (List.getElem?_eq_some_iff.1 hj).1
  rw [← hj]
  exact hc j (by omega)

theorem opens_list {α : Type} {t e e' : TypeId} {c : Cod α} (ht : P.underlying t = some (.slice e)) (hc : P.cellsOf e = c.n) (hp : 0 < c.n) (ho : Opens enc P w c e) : Opens enc P w (listC e' c) t := fun fuel cs x h => by
  classical
  rcases Go.Deep.open_slice ht h with ⟨hcs, -⟩ | ⟨ad, len, cap, m, n, D, Pl, hcs, _, hl, hm, hmm, _, hx⟩
  · exact ⟨[], none, 0, hcs, by simp, by simp [maxLen], fun _ => rfl, fun hp => by simp at hp⟩
  · have hm' : m = cap := by rw [hmm]; simp
    have key : ∀ i, i < len → ∃ y : α × List Value, c.rep w y.1 y.2 ∧ ∀ j u, y.2[j]? = some u → w.cell? (ad.add (i * c.n + j)) = some u := fun i hi => by
      obtain ⟨cs', h1, h2⟩ := hx i (by omega)
      obtain ⟨a, ha⟩ := ho _ _ _ h2
      rw [hc] at h1
      refine ⟨(a, cs'), ha, fun j u hj => ?_⟩
      rw [← Go.Deep.add_add]
      exact (cells_at h1).2 j u hj
    have hlist : ∀ k, k ≤ len → ∃ l : List α, l.length = k ∧ ∀ i a, l[i]? = some a → ∃ us, c.rep w a us ∧ ∀ j u, us[j]? = some u → w.cell? (ad.add (i * c.n + j)) = some u := by
      intro k
      induction k with
      | zero => exact fun _ => ⟨[], rfl, fun i a hi => by simp at hi⟩
      | succ k ih =>
        intro hk
        obtain ⟨l, hll, hlc⟩ := ih (by omega)
        obtain ⟨y, hy, hyc⟩ := key k (by omega)
        refine ⟨l ++ [y.1], by simp [hll], fun i a hi => ?_⟩
        by_cases hik : i < l.length
        · rw [List.getElem?_append_left hik] at hi
          exact hlc i a hi
        · rw [List.getElem?_append_right (by omega)] at hi
          have hi0 : i - l.length = 0 := by
            have := (List.getElem?_eq_some_iff.1 hi).1
            simp at this; omega
          rw [hi0] at hi
          simp at hi
          subst hi
          have hik' : i = k := by omega
          subst hik'
          exact ⟨y.2, hy, hyc⟩
    obtain ⟨l, hll, hlc⟩ := hlist len (Nat.le_refl _)
    subst hll
    refine ⟨l, some ad, cap, hcs, hl, hm, fun e => by simp at e, fun hp0 => ?_⟩
    obtain ⟨b, o, sp⟩ := ad
    obtain ⟨a0, ha0⟩ : ∃ a, l[0]? = some a := ⟨l[0], by simp [hp0]⟩
    obtain ⟨us, hr, hu⟩ := hlc 0 a0 ha0
    have hul := c.len hr
    have h0 := hu 0 (us[0]'(by omega)) (by simp)
    have hsp : sp = none := by
      have := World.cell?_spot h0
      simpa [Addr.add] using this
    subst hsp
    refine ⟨b, o, rfl, fun i a hi => ?_⟩
    obtain ⟨us, hr, hu⟩ := hlc i a hi
    refine ⟨us, hr, fun j u hj => ?_⟩
    have := hu j u hj
    rw [addr_add, ← Nat.add_assoc] at this
    exact this

/-- Fields from an offset on. -/
def OpensF {α : Type} {H : Type} (enc : TypeId × Value → H) (P : Program) (w : World) (c : Cod α) (off : Nat) (fs : List Field) : Prop :=
  ∀ (fuel : Nat) (cs : List Value) (xs : List (DataW H × List MemPlace)), cs.length = off + c.n → (fs.mapM fun f => DataW.trod enc P w 0 (fun _ => true) true fuel f.type ((cs.drop f.offset).take (P.cellsOf f.type))) = some xs → ∃ a, c.rep w a (cs.drop off)

theorem opensF_one {α : Type} {c : Cod α} {off : Nat} {f : Field} (hf : f.offset = off) (hn : P.cellsOf f.type = c.n) (h : Opens enc P w c f.type) : OpensF enc P w c off [f] := fun fuel cs xs hl hx => by
  simp only [List.mapM_cons, List.mapM_nil, Option.pure_def, Option.bind_eq_bind, Option.bind_eq_some_iff] at hx
  obtain ⟨x, hx1, -⟩ := hx
  rw [hf, hn, List.take_of_length_le (by rw [List.length_drop]; omega)] at hx1
  exact h _ _ _ hx1
theorem opensF_cons {α β : Type} {c : Cod α} {d : Cod β} {off : Nat} {f : Field} {fs : List Field} (hf : f.offset = off) (hn : P.cellsOf f.type = c.n) (h : Opens enc P w c f.type) (hs : OpensF enc P w d (off + c.n) fs) : OpensF enc P w (prodC c d) off (f :: fs) := fun fuel cs xs hl hx => by
  simp only [List.mapM_cons, Option.pure_def, Option.bind_eq_bind, Option.bind_eq_some_iff] at hx
  obtain ⟨x, hx1, ys, hys, -⟩ := hx
  rw [hf, hn] at hx1
  obtain ⟨a, ha⟩ := h _ _ _ hx1
  obtain ⟨b, hb⟩ := hs fuel cs ys (by rw [hl]; show off + (c.n + d.n) = _; omega) hys
  refine ⟨(a, b), _, _, ?_, ha, hb⟩
  rw [← List.drop_drop, List.take_append_drop]
theorem opens_struct {α : Type} {t : TypeId} {c : Cod α} {fs : Array Field} (ht : P.underlying t = some (.struct fs)) (hn : P.cellsOf t = c.n) (h : OpensF enc P w c 0 fs.toList) : Opens enc P w c t := fun fuel cs x hx => by
  cases fuel with
  | zero => simp [DataW.trod] at hx
  | succ fuel =>
    unfold DataW.trod at hx
    rw [ht] at hx
    simp only [hn] at hx
    split at hx
    · rename_i hl
      obtain ⟨xs, hxs, -⟩ := Option.map_eq_some_iff.1 hx
      obtain ⟨a, ha⟩ := h fuel cs xs (by rw [Nat.zero_add]; exact hl) hxs
      exact ⟨a, by simpa using ha⟩
    · cases hx
end
end Go.Proofs.YthiabbgkfmopiaaGreat

/- What is known of a stretch of memory, for the walks of the 'exact' laws: a fact that hangs on the blocks from lo up to hi alone (Win), and what a call that writes in one stretch alone leaves (Seg). No program in it. -/
namespace Go.Proofs.YthiabbgkfmopiaaGreat
open Go.RowKit

structure Win (F : World → Prop) (lo hi : Nat) (w : World) : Prop where
  now : F w
  top : hi ≤ w.heap.size
  fr : ∀ w' : World, (∀ k, lo ≤ k → k < hi → w'.heap[k]? = w.heap[k]?) → F w'
/-- Just the blocks from lo up to hi may be other than they were. -/
structure Seg (lo hi : Nat) (w w' : World) : Prop where
  os : w'.os = w.os
  tape : w'.tape = w.tape
  output : w'.output = w.output
  size : w.heap.size ≤ w'.heap.size
  block : ∀ k, k < w.heap.size → (k < lo ∨ hi ≤ k) → w'.heap[k]? = w.heap[k]?

theorem Win.move {F : World → Prop} {lo hi : Nat} {w w' : World} (h : Win F lo hi w) (ht : w.heap.size ≤ w'.heap.size) (hs : ∀ k, lo ≤ k → k < hi → w'.heap[k]? = w.heap[k]?) : Win F lo hi w' :=
  ⟨h.fr w' hs, Nat.le_trans h.top ht, fun w'' h2 => h.fr w'' fun k h3 h4 => (h2 k h3 h4).trans (hs k h3 h4)⟩
theorem Win.stay {F : World → Prop} {lo hi : Nat} {w w' : World} (h : Win F lo hi w) (hb : Below w.heap.size w w') : Win F lo hi w' :=
  h.move hb.size fun k _ h2 => hb.block k (Nat.lt_of_lt_of_le h2 h.top)
theorem Win.seg {F : World → Prop} {lo hi a b : Nat} {w w' : World} (h : Win F lo hi w) (hs : Seg a b w w') (hd : hi ≤ a ∨ b ≤ lo) : Win F lo hi w' :=
  h.move hs.size fun k h1 h2 => hs.block k (Nat.lt_of_lt_of_le h2 h.top) (by omega)
theorem Below.seg {W a b : World} {lo hi : Nat} (h : Below W.heap.size W a) (hs : Seg lo hi a b) (hl : W.heap.size ≤ lo) : Below W.heap.size W b :=
  ⟨hs.os.trans h.os, hs.tape.trans h.tape, hs.output.trans h.output, Nat.le_trans h.size hs.size, fun k hk => (hs.block k (Nat.lt_of_lt_of_le hk h.size) (by omega)).trans (h.block k hk)⟩
theorem Only.seg {fp : List Nat} {lo hi : Nat} {w w' : World} (h : Only fp w w') (hin : ∀ k, k ∈ fp → lo ≤ k ∧ k < hi) : Seg lo hi w w' :=
  ⟨h.os, h.tape, h.output, h.size, fun k hk hn => h.block k hk fun e => by have := hin k e; omega⟩
theorem grown_seg {row : Option Nat} {lo hi : Nat} {w w' : World} (h : w.grownBy w' row) (hin : ∀ k, k ∈ row.toList → lo ≤ k ∧ k < hi) : Seg lo hi w w' := (Only.grown h).seg hin

/-- Bytes of one's own; where they lie. -/
theorem Own.win {w : World} {B lo hi : Nat} {v : Value} {bs : List UInt8} (h : Own w B v bs) (ht : hi ≤ w.heap.size) (hin : ∀ k, k ∈ v.ownBlock.toList → lo ≤ k ∧ k < hi) : Win (fun w => Own w B v bs) lo hi w :=
  ⟨h, ht, fun w' hs => by
    have h2 : bytC.own w' B bs [v] v.ownBlock.toList := bytC.fr (w := w) ⟨v, rfl, h, rfl⟩ fun k hk => hs k (hin k hk).1 (hin k hk).2
    obtain ⟨v', e, h3, -⟩ := h2
    simp only [List.cons.injEq, and_true] at e
    rw [e]
    exact h3⟩
theorem Own.ins {w : World} {B : Nat} {v : Value} {bs : List UInt8} (h : Own w B v bs) : ∀ k, k ∈ v.ownBlock.toList → B ≤ k ∧ k < w.heap.size := fun k hk => ⟨h.ge k (mem_opt.1 hk), h.lt k (mem_opt.1 hk)⟩
theorem OwnL.win {α : Type} {e : TypeId} {c : Cod α} {w : World} {B lo hi : Nat} {v : Value} {l : List α} {xs : List Value} {fp : List Nat} (h : OwnL e c w B v l xs fp) (ht : hi ≤ w.heap.size) (hin : ∀ k, k ∈ v.ownBlock.toList ++ fp → lo ≤ k ∧ k < hi) : Win (fun w => OwnL e c w B v l xs fp) lo hi w :=
  ⟨h, ht, fun _ hs => h.fr fun k hk => hs k (hin k hk).1 (hin k hk).2⟩
theorem RdL.own {α : Type} {e : TypeId} {c : Cod α} {w : World} {B n q : Nat} {p : Option Addr} {l : List α} {xs : List Value} {fp : List Nat} (h : OwnL e c w B (.slice p n q) l xs fp) : RdL c w p q l := by
  obtain ⟨p', q', e1, hr⟩ := h.rd
  simp only [Value.slice.injEq] at e1
  obtain ⟨rfl, -, rfl⟩ := e1
  exact hr
/-- Data of whatever kind. -/
theorem Cod.own.ins {α : Type} {c : Cod α} {w : World} {B : Nat} {a : α} {us : List Value} {fp : List Nat} (h : c.own w B a us fp) : ∀ k, k ∈ fp → B ≤ k ∧ k < w.heap.size := c.ins h
theorem Cod.own.win {α : Type} {c : Cod α} {w : World} {B lo hi : Nat} {a : α} {us : List Value} {fp : List Nat} (h : c.own w B a us fp) (ht : hi ≤ w.heap.size) (hin : ∀ k, k ∈ fp → lo ≤ k ∧ k < hi) : Win (fun w => c.own w B a us fp) lo hi w :=
  ⟨h, ht, fun _ hs => c.fr h fun k hk => hs k (hin k hk).1 (hin k hk).2⟩
/-- A local's cells. -/
theorem Has.win {w : World} {b : Nat} {v : Value} {vs : List Value} (h : Has w b (v :: vs)) : Win (fun w => Has w b (v :: vs)) b (b + 1) w :=
  ⟨h, h.lt, fun _ hs i u hu => by
    rw [World.cell?_of_block (a := ⟨b, i, none⟩) (hs b (Nat.le_refl _) (Nat.lt_succ_self _))]
    exact h i u hu⟩
end Go.Proofs.YthiabbgkfmopiaaGreat

/- Memory in which some blocks are struck out ('blank'), with no program in it: what can be read there can be read whatever is written into those blocks. No conditions but those in each line. -/
namespace Go.Proofs.YthiabbgkfmopiaaGreat
open Go.RowKit

/-- All that can be read here can be read there. -/
def Sees (w w' : World) : Prop := ∀ p v, w.cell? p = some v → w'.cell? p = some v
theorem Sees.refl (w : World) : Sees w w := fun _ _ h => h
theorem Sees.trans {a b c : World} (h : Sees a b) (k : Sees b c) : Sees a c := fun p v e => k p v (h p v e)
theorem Sees.of_below {w w' : World} (h : Below w.heap.size w w') : Sees w w' := fun _ _ e => cell_keep e h

/-- Some blocks are struck out. -/
def blank (S : List Nat) (w : World) : World := { w with heap := w.heap.mapIdx fun k o => if k ∈ S then .cells #[] 0 (0, 0) else o }
theorem blank_size (S : List Nat) (w : World) : (blank S w).heap.size = w.heap.size := by simp [blank]
theorem blank_out {S : List Nat} {w : World} {k : Nat} (h : k ∉ S) : (blank S w).heap[k]? = w.heap[k]? := by
  simp only [blank, Array.getElem?_mapIdx, if_neg h]
  cases w.heap[k]? <;> rfl
theorem blank_in {S : List Nat} {w : World} {k o : Nat} {v : Value} {s : Option Nat} (h : k ∈ S) : ¬ (blank S w).cell? ⟨k, o, s⟩ = some v := by
  intro e
  simp only [World.cell?, blank, Array.getElem?_mapIdx, if_pos h] at e
  cases hw : w.heap[k]? with
  | none => rw [hw] at e; simp at e
  | some x => rw [hw] at e; cases s <;> simp at e
theorem blank_cell {S : List Nat} {w : World} {p : Addr} {v : Value} (h : (blank S w).cell? p = some v) : p.block ∉ S ∧ w.cell? p = some v := by
  have hn : p.block ∉ S := fun hm => blank_in (o := p.off) (s := p.spot) hm h
  exact ⟨hn, by rw [← h]; exact (World.cell?_of_block (w := w) (w' := blank S w) (a := p) (blank_out hn)).symm⟩
theorem cell_blank {S : List Nat} {w : World} {p : Addr} {v : Value} (h : w.cell? p = some v) (hn : p.block ∉ S) : (blank S w).cell? p = some v :=
  (World.cell?_of_block (w := w) (w' := blank S w) (a := p) (blank_out hn)).trans h
theorem blank_le (S : List Nat) (w : World) : Sees (blank S w) w := fun _ _ h => (blank_cell h).2
/-- What is read aside of the struck blocks stays, where no other block turns. -/
theorem blank_sees {S S' : List Nat} {w w' : World} (h : ∀ k, k < w.heap.size → k ∉ S → k ∉ S' ∧ w'.heap[k]? = w.heap[k]?) : Sees (blank S w) (blank S' w') := fun p v e => by
  obtain ⟨h1, h2⟩ := blank_cell e
  obtain ⟨h3, h4⟩ := h p.block (World.block_lt_of_cell? w _ h2) h1
  exact cell_blank ((World.cell?_of_block (w := w) (a := p) h4).trans h2) h3
theorem blank_only {S : List Nat} {w w' : World} (h : Only S w w') : Sees (blank S w) (blank S w') := blank_sees fun k hk hn => ⟨hn, h.block k hk hn⟩
theorem blank_below {S : List Nat} {w w' : World} (h : Below w.heap.size w w') : Sees (blank S w) (blank S w') := blank_sees fun k hk hn => ⟨hn, h.block k hk⟩
theorem Cod.blanked {α : Type} (c : Cod α) {S : List Nat} {w : World} {B : Nat} {a : α} {vs : List Value} {fp : List Nat} (h : c.own w B a vs fp) (hd : ∀ k, k ∈ fp → k ∉ S) : c.rep (blank S w) a vs :=
  c.toRep (c.fr h fun k hk => blank_out (hd k hk))

theorem Rd.sees {w w' : World} {a : Option Addr} {cap : Nat} {bs : List UInt8} (h : Rd w a cap bs) (hs : Sees w w') : Rd w' a cap bs := by
  obtain ⟨h1, h2, h3, h4⟩ := h
  refine ⟨h1, h2, h3, fun hp => ?_⟩
  obtain ⟨b, o, rfl, hc⟩ := h4 hp
  exact ⟨b, o, rfl, fun i hi => hs _ _ (hc i hi)⟩
/-- Data that hang on what can be read alone. -/
def Cod.Mono {α : Type} (c : Cod α) : Prop := ∀ {w w' : World} {a : α} {vs : List Value}, Sees w w' → c.rep w a vs → c.rep w' a vs
theorem intC_mono (k : IntKind) : (intC k).Mono := fun _ h => h
theorem bytC_mono : bytC.Mono := fun hs ⟨p, q, h, r⟩ => ⟨p, q, h, r.sees hs⟩
theorem prodC_mono {α β : Type} {c : Cod α} {d : Cod β} (hc : c.Mono) (hd : d.Mono) : (prodC c d).Mono := fun hs ⟨us, ts, h, h1, h2⟩ => ⟨us, ts, h, hc hs h1, hd hs h2⟩
theorem RdL.sees {α : Type} {c : Cod α} (hc : c.Mono) {w w' : World} {p : Option Addr} {q : Nat} {l : List α} (h : RdL c w p q l) (hs : Sees w w') : RdL c w' p q l := by
  obtain ⟨h1, h2, h3, h4⟩ := h
  refine ⟨h1, h2, h3, fun hp => ?_⟩
  obtain ⟨b, o, rfl, hi⟩ := h4 hp
  refine ⟨b, o, rfl, fun i a ha => ?_⟩
  obtain ⟨us, hr, hu⟩ := hi i a ha
  exact ⟨us, hc hs hr, fun j u hj => hs _ _ (hu j u hj)⟩
theorem listC_mono {α : Type} {e : TypeId} {c : Cod α} (hc : c.Mono) : (listC e c).Mono := fun hs ⟨p, q, h, r⟩ => ⟨p, q, h, r.sees hc hs⟩
/-- What is read in blocks below B stays where these blocks stay. -/
theorem Sees.below_of {B : Nat} {W w : World} (hB : B = W.heap.size) (h : Below B W w) (S : List Nat) (hS : ∀ k, k ∈ S → B ≤ k) : Sees W (blank S w) := fun p v e => by
  have hl := World.block_lt_of_cell? W _ e
  exact cell_blank ((World.cell?_of_block (w := W) (a := p) (h.block p.block (by omega))).trans e) (fun hm => by have := hS _ hm; omega)
end Go.Proofs.YthiabbgkfmopiaaGreat

