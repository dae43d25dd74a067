/- From what a row says of an argument (it reads as data of its type) to how it lies in memory ('Cod'): numbers, bytes, structs, lists. No program in it. -/
import Derived.Test.YtgjmhlolbjmibaaDoorCod
import Derived.OpenShut
import Derived.ChangeSlices
import Derived.Deep.Slices
namespace Go.Proofs.YtgjmhlolbjmibaaDoor
open Go.ChangeShapes Go.WideShapes Go.RowKit

/-- Cells that read as data of this type are cells of this kind of data. -/
def Opens {α : Type} {H : Type} (enc : TypeId × Value → H) (P : Program) (w : World) (c : Cod α) (t : TypeId) : Prop :=
  ∀ (fuel : Nat) (cs : List Value) (x : DataW H × List MemPlace), DataW.trod enc P w 0 (fun _ => true) true fuel t cs = some x → ∃ a, c.rep w a cs

section
variable {H : Type} {enc : TypeId × Value → H} {P : Program} {w : World}

theorem opens_int {t : TypeId} {k : IntKind} (ht : P.underlying t = some (.int k)) : Opens enc P w (intC k) t := fun fuel cs x h => by
  cases fuel with
  | zero => simp [DataW.trod] at h
  | succ fuel =>
    unfold DataW.trod at h
    rw [ht] at h
    split at h <;> simp_all
    obtain ⟨⟨rfl, -⟩, -⟩ := h
    exact ⟨_, rfl⟩

theorem opens_bytes {t e : TypeId} (ht : P.underlying t = some (.slice e)) (he : P.underlying e = some (.int .u8)) (hc : P.cellsOf e = 1) : Opens enc P w bytC t := fun fuel cs x h => by
  rcases open_ints ht he hc h with ⟨hcs, -⟩ | ⟨ad, l, c, zs, hcs, _, hl, hm, hz, _, hcell, hwz⟩
  · exact ⟨[], none, 0, hcs, by simp, by simp [maxLen], fun _ => rfl, fun hp => by simp at hp⟩
  · obtain ⟨bs, e1, r⟩ := rd_of (w := w) (a := some ad) (len := l) (cap := c) (zs := zs) (.inr ⟨ad, rfl, hl, hm, by simpa using hz, hcell, hwz⟩)
    exact ⟨bs, some ad, c, by rw [← e1]; exact hcs, r⟩

theorem cells_at {a : Addr} {n : Nat} {cs : List Value} (h : w.cells? 0 a n = some cs) : cs.length = n ∧ ∀ j u, cs[j]? = some u → w.cell? (a.add j) = some u := by
  obtain ⟨-, hl, hc⟩ := World.cells?_some h
  refine ⟨hl, fun j u hj => ?_⟩
  have hlt := (List.getElem?_eq_some_iff.1 hj).1
  rw [← hj]
  exact hc j (by omega)

theorem opens_list {α : Type} {t e e' : TypeId} {c : Cod α} (ht : P.underlying t = some (.slice e)) (hc : P.cellsOf e = c.n) (hp : 0 < c.n) (ho : Opens enc P w c e) : Opens enc P w (listC e' c) t := fun fuel cs x h => by
  classical
  rcases Go.Deep.open_slice ht h with ⟨hcs, -⟩ | ⟨ad, len, cap, m, n, D, Pl, hcs, _, hl, hm, hmm, _, hx⟩
  · exact ⟨[], none, 0, hcs, by simp, by simp [maxLen], fun _ => rfl, fun hp => by simp at hp⟩
  · have hm' : m = cap := by rw [hmm]; simp
    have key : ∀ i, i < len → ∃ y : α × List Value, c.rep w y.1 y.2 ∧ ∀ j u, y.2[j]? = some u → w.cell? (ad.add (i * c.n + j)) = some u := fun i hi => by
      obtain ⟨cs', h1, h2⟩ := hx i (by omega)
      obtain ⟨a, ha⟩ := ho _ _ _ h2
      rw [hc] at h1
      refine ⟨(a, cs'), ha, fun j u hj => ?_⟩
      rw [← Go.Deep.add_add]
      exact (cells_at h1).2 j u hj
    have hlist : ∀ k, k ≤ len → ∃ l : List α, l.length = k ∧ ∀ i a, l[i]? = some a → ∃ us, c.rep w a us ∧ ∀ j u, us[j]? = some u → w.cell? (ad.add (i * c.n + j)) = some u := by
      intro k
      induction k with
      | zero => exact fun _ => ⟨[], rfl, fun i a hi => by simp at hi⟩
      | succ k ih =>
        intro hk
        obtain ⟨l, hll, hlc⟩ := ih (by omega)
        obtain ⟨y, hy, hyc⟩ := key k (by omega)
        refine ⟨l ++ [y.1], by simp [hll], fun i a hi => ?_⟩
        by_cases hik : i < l.length
        · rw [List.getElem?_append_left hik] at hi
          exact hlc i a hi
        · rw [List.getElem?_append_right (by omega)] at hi
          have hi0 : i - l.length = 0 := by
            have := (List.getElem?_eq_some_iff.1 hi).1
            simp at this; omega
          rw [hi0] at hi
          simp at hi
          subst hi
          have hik' : i = k := by omega
          subst hik'
          exact ⟨y.2, hy, hyc⟩
    obtain ⟨l, hll, hlc⟩ := hlist len (Nat.le_refl _)
    subst hll
    refine ⟨l, some ad, cap, hcs, hl, hm, fun e => by simp at e, fun hp0 => ?_⟩
    obtain ⟨b, o, sp⟩ := ad
    obtain ⟨a0, ha0⟩ : ∃ a, l[0]? = some a := ⟨l[0], by simp [hp0]⟩
    obtain ⟨us, hr, hu⟩ := hlc 0 a0 ha0
    have hul := c.len hr
    have h0 := hu 0 (us[0]'(by omega)) (by simp)
    have hsp : sp = none := by
      have := World.cell?_spot h0
      simpa [Addr.add] using this
    subst hsp
    refine ⟨b, o, rfl, fun i a hi => ?_⟩
    obtain ⟨us, hr, hu⟩ := hlc i a hi
    refine ⟨us, hr, fun j u hj => ?_⟩
    have := hu j u hj
    rw [addr_add, ← Nat.add_assoc] at this
    exact this

/-- Fields from an offset on. -/
def OpensF {α : Type} {H : Type} (enc : TypeId × Value → H) (P : Program) (w : World) (c : Cod α) (off : Nat) (fs : List Field) : Prop :=
  ∀ (fuel : Nat) (cs : List Value) (xs : List (DataW H × List MemPlace)), cs.length = off + c.n → (fs.mapM fun f => DataW.trod enc P w 0 (fun _ => true) true fuel f.type ((cs.drop f.offset).take (P.cellsOf f.type))) = some xs → ∃ a, c.rep w a (cs.drop off)

theorem opensF_one {α : Type} {c : Cod α} {off : Nat} {f : Field} (hf : f.offset = off) (hn : P.cellsOf f.type = c.n) (h : Opens enc P w c f.type) : OpensF enc P w c off [f] := fun fuel cs xs hl hx => by
  simp only [List.mapM_cons, List.mapM_nil, Option.pure_def, Option.bind_eq_bind, Option.bind_eq_some_iff] at hx
  obtain ⟨x, hx1, -⟩ := hx
  rw [hf, hn, List.take_of_length_le (by rw [List.length_drop]; omega)] at hx1
  exact h _ _ _ hx1
theorem opensF_cons {α β : Type} {c : Cod α} {d : Cod β} {off : Nat} {f : Field} {fs : List Field} (hf : f.offset = off) (hn : P.cellsOf f.type = c.n) (h : Opens enc P w c f.type) (hs : OpensF enc P w d (off + c.n) fs) : OpensF enc P w (prodC c d) off (f :: fs) := fun fuel cs xs hl hx => by
  simp only [List.mapM_cons, Option.pure_def, Option.bind_eq_bind, Option.bind_eq_some_iff] at hx
  obtain ⟨x, hx1, ys, hys, -⟩ := hx
  rw [hf, hn] at hx1
  obtain ⟨a, ha⟩ := h _ _ _ hx1
  obtain ⟨b, hb⟩ := hs fuel cs ys (by rw [hl]; show off + (c.n + d.n) = _; omega) hys
  refine ⟨(a, b), _, _, ?_, ha, hb⟩
  rw [← List.drop_drop, List.take_append_drop]
theorem opens_struct {α : Type} {t : TypeId} {c : Cod α} {fs : Array Field} (ht : P.underlying t = some (.struct fs)) (hn : P.cellsOf t = c.n) (h : OpensF enc P w c 0 fs.toList) : Opens enc P w c t := fun fuel cs x hx => by
  cases fuel with
  | zero => simp [DataW.trod] at hx
  | succ fuel =>
    unfold DataW.trod at hx
    rw [ht] at hx
    simp only [hn] at hx
    split at hx
    · rename_i hl
      obtain ⟨xs, hxs, -⟩ := Option.map_eq_some_iff.1 hx
      obtain ⟨a, ha⟩ := h fuel cs xs (by rw [Nat.zero_add]; exact hl) hxs
      exact ⟨a, by simpa using ha⟩
    · cases hx
end
end Go.Proofs.YtgjmhlolbjmibaaDoor
