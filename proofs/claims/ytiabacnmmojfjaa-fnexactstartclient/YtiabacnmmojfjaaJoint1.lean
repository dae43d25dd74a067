/- From what a row says of an argument (it reads as data of its type) to how it lies in memory ('Cod'): numbers, bytes, structs, lists. No program in it. -/
import Derived.Test.YtiabacnmmojfjaaCod
import Derived.OpenShut
import Derived.ChangeSlices
import Derived.Deep.Slices
import Derived.Test.YtiabacnmmojfjaaBytes
namespace Go.Proofs.Ytiabacnmmojfjaa
open Go.ChangeShapes Go.WideShapes Go.RowKit

/-- Cells that read as data of this type are cells of this kind of data. -/
def Opens {α : Type} {H : Type} (enc : TypeId × Value → H) (P : Program) (w : World) (c : Cod α) (t : TypeId) : Prop :=
  ∀ (fuel : Nat) (cs : List Value) (x : DataW H × List MemPlace), DataW.trod enc P w 0 (fun _ => true) true fuel t cs = some x → ∃ a, c.rep w a cs

section
variable {H : Type} {enc : TypeId × Value → H} {P : Program} {w : World}

theorem opens_int {t : TypeId} {k : IntKind} (ht : P.underlying t = some (.int k)) : Opens enc P w (intC k) t := fun fuel cs x h => by
  cases fuel with
  | zero => simp [DataW.trod] at h
  | succ fuel =>
    unfold DataW.trod at h
    rw [ht] at h
    split at h <;> simp_all
    obtain ⟨⟨rfl, -⟩, -⟩ := h
    exact ⟨_, rfl⟩

theorem opens_bytes {t e : TypeId} (ht : P.underlying t = some (.slice e)) (he : P.underlying e = some (.int .u8)) (hc : P.cellsOf e = 1) : Opens enc P w bytC t := fun fuel cs x h => by
  rcases open_ints ht he hc h with ⟨hcs, -⟩ | ⟨ad, l, c, zs, hcs, _, hl, hm, hz, _, hcell, hwz⟩
  · exact ⟨[], none, 0, hcs, by simp, by simp [maxLen], fun _ => rfl, fun hp => by simp at hp⟩
  · obtain ⟨bs, e1, r⟩ := rd_of (w := w) (a := some ad) (len := l) (cap := c) (zs := zs) (.inr ⟨ad, rfl, hl, hm, by simpa using hz, hcell, hwz⟩)
    exact ⟨bs, some ad, c, by rw [← e1]; exact hcs, r⟩

theorem cells_at {a : Addr} {n : Nat} {cs : List Value} (h : w.cells? 0 a n = some cs) : cs.length = n ∧ ∀ j u, cs[j]? = some u → w.cell? (a.add j) = some u := by
  obtain ⟨-, hl, hc⟩ := World.cells?_some h
  refine ⟨hl, fun j u hj => ?_⟩
  have hlt := (List.getElem?_eq_some_iff.1 hj).1
  rw [← hj]
  exact hc j (by omega)

theorem opens_list {α : Type} {t e e' : TypeId} {c : Cod α} (ht : P.underlying t = some (.slice e)) (hc : P.cellsOf e = c.n) (hp : 0 < c.n) (ho : Opens enc P w c e) : Opens enc P w (listC e' c) t := fun fuel cs x h => by
  classical
  rcases Go.Deep.open_slice ht h with ⟨hcs, -⟩ | ⟨ad, len, cap, m, n, D, Pl, hcs, _, hl, hm, hmm, _, hx⟩
  · exact ⟨[], none, 0, hcs, by simp, by simp [maxLen], fun _ => rfl, fun hp => by simp at hp⟩
  · have hm' : m = cap := by rw [hmm]; simp
    have key : ∀ i, i < len → ∃ y : α × List Value, c.rep w y.1 y.2 ∧ ∀ j u, y.2[j]? = some u → w.cell? (ad.add (i * c.n + j)) = some u := fun i hi => by
      obtain ⟨cs', h1, h2⟩ := hx i (by omega)
      obtain ⟨a, ha⟩ := ho _ _ _ h2
      rw [hc] at h1
      refine ⟨(a, cs'), ha, fun j u hj => ?_⟩
      rw [← Go.Deep.add_add]
      exact (cells_at h1).2 j u hj
    have hlist : ∀ k, k ≤ len → ∃ l : List α, l.length = k ∧ ∀ i a, l[i]? = some a → ∃ us, c.rep w a us ∧ ∀ j u, us[j]? = some u → w.cell? (ad.add (i * c.n + j)) = some u := by
      intro k
      induction k with
      | zero => exact fun _ => ⟨[], rfl, fun i a hi => by simp at hi⟩
      | succ k ih =>
        intro hk
        obtain ⟨l, hll, hlc⟩ := ih (by omega)
        obtain ⟨y, hy, hyc⟩ := key k (by omega)
        refine ⟨l ++ [y.1], by simp [hll], fun i a hi => ?_⟩
        by_cases hik : i < l.length
        · rw [List.getElem?_append_left hik] at hi
          exact hlc i a hi
        · rw [List.getElem?_append_right (by omega)] at hi
          have hi0 : i - l.length = 0 := by
            have := (List.getElem?_eq_some_iff.1 hi).1
            simp at this; omega
          rw [hi0] at hi
          simp at hi
          subst hi
          have hik' : i = k := by omega
          subst hik'
          exact ⟨y.2, hy, hyc⟩
    obtain ⟨l, hll, hlc⟩ := hlist len (Nat.le_refl _)
    subst hll
    refine ⟨l, some ad, cap, hcs, hl, hm, fun e => by simp at e, fun hp0 => ?_⟩
    obtain ⟨b, o, sp⟩ := ad
    obtain ⟨a0, ha0⟩ : ∃ a, l[0]? = some a := ⟨l[0], by simp [hp0]⟩
    obtain ⟨us, hr, hu⟩ := hlc 0 a0 ha0
    have hul := c.len hr
    have h0 := hu 0 (us[0]'(by omega)) (by simp)
    have hsp : sp = none := by
      have := World.cell?_spot h0
      simpa [Addr.add] using this
    subst hsp
    refine ⟨b, o, rfl, fun i a hi => ?_⟩
    obtain ⟨us, hr, hu⟩ := hlc i a hi
    refine ⟨us, hr, fun j u hj => ?_⟩
    have := hu j u hj
    rw [addr_add, ← Nat.add_assoc] at this
    exact this

/-- Fields from an offset on. -/
def OpensF {α : Type} {H : Type} (enc : TypeId × Value → H) (P : Program) (w : World) (c : Cod α) (off : Nat) (fs : List Field) : Prop :=
  ∀ (fuel : Nat) (cs : List Value) (xs : List (DataW H × List MemPlace)), cs.length = off + c.n → (fs.mapM fun f => DataW.trod enc P w 0 (fun _ => true) true fuel f.type ((cs.drop f.offset).take (P.cellsOf f.type))) = some xs → ∃ a, c.rep w a (cs.drop off)

theorem opensF_one {α : Type} {c : Cod α} {off : Nat} {f : Field} (hf : f.offset = off) (hn : P.cellsOf f.type = c.n) (h : Opens enc P w c f.type) : OpensF enc P w c off [f] := fun fuel cs xs hl hx => by
  simp only [List.mapM_cons, List.mapM_nil, Option.pure_def, Option.bind_eq_bind, Option.bind_eq_some_iff] at hx
  obtain ⟨x, hx1, -⟩ := hx
  rw [hf, hn, List.take_of_length_le (by rw [List.length_drop]; omega)] at hx1
  exact h _ _ _ hx1
theorem opensF_cons {α β : Type} {c : Cod α} {d : Cod β} {off : Nat} {f : Field} {fs : List Field} (hf : f.offset = off) (hn : P.cellsOf f.type = c.n) (h : Opens enc P w c f.type) (hs : OpensF enc P w d (off + c.n) fs) : OpensF enc P w (prodC c d) off (f :: fs) := fun fuel cs xs hl hx => by
  simp only [List.mapM_cons, Option.pure_def, Option.bind_eq_bind, Option.bind_eq_some_iff] at hx
  obtain ⟨x, hx1, ys, hys, -⟩ := hx
  rw [hf, hn] at hx1
  obtain ⟨a, ha⟩ := h _ _ _ hx1
  obtain ⟨b, hb⟩ := hs fuel cs ys (by rw [hl]; show off + (c.n + d.n) = _; omega) hys
  refine ⟨(a, b), _, _, ?_, ha, hb⟩
  rw [← List.drop_drop, List.take_append_drop]
theorem opens_struct {α : Type} {t : TypeId} {c : Cod α} {fs : Array Field} (ht : P.underlying t = some (.struct fs)) (hn : P.cellsOf t = c.n) (h : OpensF enc P w c 0 fs.toList) : Opens enc P w c t := fun fuel cs x hx => by
  cases fuel with
  | zero => simp [DataW.trod] at hx
  | succ fuel =>
    unfold DataW.trod at hx
    rw [ht] at hx
    simp only [hn] at hx
    split at hx
    · rename_i hl
      obtain ⟨xs, hxs, -⟩ := Option.map_eq_some_iff.1 hx
      obtain ⟨a, ha⟩ := h fuel cs xs (by rw [Nat.zero_add]; exact hl) hxs
      exact ⟨a, by simpa using ha⟩
    · cases hx
end
end Go.Proofs.Ytiabacnmmojfjaa

/- What is known of a stretch of memory, for the walks of the 'exact' laws: a fact that hangs on the blocks from lo up to hi alone (Win), and what a call that writes in one stretch alone leaves (Seg). No program in it. -/
namespace Go.Proofs.Ytiabacnmmojfjaa
open Go.RowKit

structure Win (F : World → Prop) (lo hi : Nat) (w : World) : Prop where
  now : F w
  top : hi ≤ w.heap.size
  fr : ∀ w' : World, (∀ k, lo ≤ k → k < hi → w'.heap[k]? = w.heap[k]?) → F w'
/-- Just the blocks from lo up to hi may be other than they were. -/
structure Seg (lo hi : Nat) (w w' : World) : Prop where
  os : w'.os = w.os
  tape : w'.tape = w.tape
  output : w'.output = w.output
  size : w.heap.size ≤ w'.heap.size
  block : ∀ k, k < w.heap.size → (k < lo ∨ hi ≤ k) → w'.heap[k]? = w.heap[k]?

theorem Win.move {F : World → Prop} {lo hi : Nat} {w w' : World} (h : Win F lo hi w) (ht : w.heap.size ≤ w'.heap.size) (hs : ∀ k, lo ≤ k → k < hi → w'.heap[k]? = w.heap[k]?) : Win F lo hi w' :=
  ⟨h.fr w' hs, Nat.le_trans h.top ht, fun w'' h2 => h.fr w'' fun k h3 h4 => (h2 k h3 h4).trans (hs k h3 h4)⟩
theorem Win.stay {F : World → Prop} {lo hi : Nat} {w w' : World} (h : Win F lo hi w) (hb : Below w.heap.size w w') : Win F lo hi w' :=
  h.move hb.size fun k _ h2 => hb.block k (Nat.lt_of_lt_of_le h2 h.top)
theorem Win.seg {F : World → Prop} {lo hi a b : Nat} {w w' : World} (h : Win F lo hi w) (hs : Seg a b w w') (hd : hi ≤ a ∨ b ≤ lo) : Win F lo hi w' :=
  h.move hs.size fun k h1 h2 => hs.block k (Nat.lt_of_lt_of_le h2 h.top) (by omega)
theorem Below.seg {W a b : World} {lo hi : Nat} (h : Below W.heap.size W a) (hs : Seg lo hi a b) (hl : W.heap.size ≤ lo) : Below W.heap.size W b :=
  ⟨hs.os.trans h.os, hs.tape.trans h.tape, hs.output.trans h.output, Nat.le_trans h.size hs.size, fun k hk => (hs.block k (Nat.lt_of_lt_of_le hk h.size) (by omega)).trans (h.block k hk)⟩
theorem Only.seg {fp : List Nat} {lo hi : Nat} {w w' : World} (h : Only fp w w') (hin : ∀ k, k ∈ fp → lo ≤ k ∧ k < hi) : Seg lo hi w w' :=
  ⟨h.os, h.tape, h.output, h.size, fun k hk hn => h.block k hk fun e => by have := hin k e; omega⟩
theorem grown_seg {row : Option Nat} {lo hi : Nat} {w w' : World} (h : w.grownBy w' row) (hin : ∀ k, k ∈ row.toList → lo ≤ k ∧ k < hi) : Seg lo hi w w' := (Only.grown h).seg hin

/-- Bytes of one's own; where they lie. -/
theorem Own.win {w : World} {B lo hi : Nat} {v : Value} {bs : List UInt8} (h : Own w B v bs) (ht : hi ≤ w.heap.size) (hin : ∀ k, k ∈ v.ownBlock.toList → lo ≤ k ∧ k < hi) : Win (fun w => Own w B v bs) lo hi w :=
  ⟨h, ht, fun w' hs => by
    have h2 : bytC.own w' B bs [v] v.ownBlock.toList := bytC.fr (w := w) ⟨v, rfl, h, rfl⟩ fun k hk => hs k (hin k hk).1 (hin k hk).2
    obtain ⟨v', e, h3, -⟩ := h2
    simp only [List.cons.injEq, and_true] at e
    rw [e]
    exact h3⟩
theorem Own.ins {w : World} {B : Nat} {v : Value} {bs : List UInt8} (h : Own w B v bs) : ∀ k, k ∈ v.ownBlock.toList → B ≤ k ∧ k < w.heap.size := fun k hk => ⟨h.ge k (mem_opt.1 hk), h.lt k (mem_opt.1 hk)⟩
theorem OwnL.win {α : Type} {e : TypeId} {c : Cod α} {w : World} {B lo hi : Nat} {v : Value} {l : List α} {xs : List Value} {fp : List Nat} (h : OwnL e c w B v l xs fp) (ht : hi ≤ w.heap.size) (hin : ∀ k, k ∈ v.ownBlock.toList ++ fp → lo ≤ k ∧ k < hi) : Win (fun w => OwnL e c w B v l xs fp) lo hi w :=
  ⟨h, ht, fun _ hs => h.fr fun k hk => hs k (hin k hk).1 (hin k hk).2⟩
theorem RdL.own {α : Type} {e : TypeId} {c : Cod α} {w : World} {B n q : Nat} {p : Option Addr} {l : List α} {xs : List Value} {fp : List Nat} (h : OwnL e c w B (.slice p n q) l xs fp) : RdL c w p q l := by
  obtain ⟨p', q', e1, hr⟩ := h.rd
  simp only [Value.slice.injEq] at e1
  obtain ⟨rfl, -, rfl⟩ := e1
  exact hr
/-- Data of whatever kind. -/
theorem Cod.own.ins {α : Type} {c : Cod α} {w : World} {B : Nat} {a : α} {us : List Value} {fp : List Nat} (h : c.own w B a us fp) : ∀ k, k ∈ fp → B ≤ k ∧ k < w.heap.size := c.ins h
theorem Cod.own.win {α : Type} {c : Cod α} {w : World} {B lo hi : Nat} {a : α} {us : List Value} {fp : List Nat} (h : c.own w B a us fp) (ht : hi ≤ w.heap.size) (hin : ∀ k, k ∈ fp → lo ≤ k ∧ k < hi) : Win (fun w => c.own w B a us fp) lo hi w :=
  ⟨h, ht, fun _ hs => c.fr h fun k hk => hs k (hin k hk).1 (hin k hk).2⟩
/-- A local's cells. -/
theorem Has.win {w : World} {b : Nat} {v : Value} {vs : List Value} (h : Has w b (v :: vs)) : Win (fun w => Has w b (v :: vs)) b (b + 1) w :=
  ⟨h, h.lt, fun _ hs i u hu => by
    rw [World.cell?_of_block (a := ⟨b, i, none⟩) (hs b (Nat.le_refl _) (Nat.lt_succ_self _))]
    exact h i u hu⟩
end Go.Proofs.Ytiabacnmmojfjaa

/- Numbers as bytes, with no program in it: putB v k: the k lowest bytes of v, the highest one first; getB: the number that bytes are. -/
namespace Go.Proofs.Ytiabacnmmojfjaa
open Go.RowKit

def putB (v : Nat) : Nat → List UInt8
  | 0 => []
  | k + 1 => UInt8.ofNat (v / 256 ^ k % 256) :: putB v k
theorem putB_len (v k : Nat) : (putB v k).length = k := by
  induction k with
  | zero => rfl
  | succ k ih => simp [putB, ih]
/-- What a loop that fills a row from its last element on has laid behind k rounds. -/
def tailed (v n k : Nat) : List Value := List.replicate (n - k) (.int .u8 0) ++ (putB v k).map u8v
theorem tailed_zero (v n : Nat) : tailed v n 0 = List.replicate n (.int .u8 0) := by simp [tailed, putB]
theorem tailed_all (v n : Nat) : tailed v n n = (putB v n).map u8v := by simp [tailed]
theorem tailed_len (v n k : Nat) (h : k ≤ n) : (tailed v n k).length = n := by simp [tailed, putB_len]; omega
theorem tailed_at (v n k : Nat) (h : k < n) : (tailed v n k)[n - 1 - k]? = some (.int .u8 0) := by
  unfold tailed
  rw [List.getElem?_append_left (by simp; omega), List.getElem?_replicate, if_pos (by omega)]
theorem tailed_set (v n k : Nat) (h : k < n) : (tailed v n k).set (n - 1 - k) (.int .u8 ((v / 256 ^ k % 256 : Nat) : Int)) = tailed v n (k + 1) := by
  have e : u8v (UInt8.ofNat (v / 256 ^ k % 256)) = .int .u8 ((v / 256 ^ k % 256 : Nat) : Int) := by
    unfold u8v; rw [UInt8.toNat_ofNat', Nat.mod_mod]
  unfold tailed
  rw [show n - k = (n - (k + 1)) + 1 by omega, List.replicate_succ', List.append_assoc, List.set_append_right _ _ (by simp; omega)]
  rw [List.length_replicate, show n - 1 - k - (n - (k + 1)) = 0 by omega]
  simp only [putB, List.map_cons, e]
  rfl

def getB (bs : List UInt8) : Nat := bs.foldl (fun n b => n * 256 + b.toNat) 0
theorem getB_snoc (bs : List UInt8) (b : UInt8) : getB (bs ++ [b]) = getB bs * 256 + b.toNat := by simp [getB]
theorem getB_take (bs : List UInt8) (k : Nat) (h : k < bs.length) : ((getB (bs.take (k + 1)) : Nat) : Int) = (getB (bs.take k) : Int) * 256 + at8 bs k := by
  rw [List.take_succ_eq_append_getElem h, getB_snoc, at8_get h]; omega
theorem getB_lt (bs : List UInt8) : getB bs < 256 ^ bs.length := by
  suffices h : ∀ (bs : List UInt8) (m k : Nat), m < 256 ^ k → bs.foldl (fun n b => n * 256 + b.toNat) m < 256 ^ (k + bs.length) by
    have := h bs 0 0 (by decide); simpa [getB] using this
  intro bs
  induction bs with
  | nil => intro m k hm; simpa using hm
  | cons b bs ih =>
    intro m k hm
    have hb := b.toNat_lt
    have := ih (m * 256 + b.toNat) (k + 1) (by rw [Nat.pow_succ]; omega)
    rw [List.foldl_cons, List.length_cons, show k + (bs.length + 1) = k + 1 + bs.length by omega]
    exact this
theorem getB_take_lt (bs : List UInt8) (k : Nat) (h : k ≤ 4) : getB (bs.take k) < 4294967296 :=
  Nat.lt_of_lt_of_le (getB_lt _) (Nat.le_trans (Nat.pow_le_pow_right (by decide) (Nat.le_trans (List.length_take_le _ _) h)) (by decide))
theorem getB_take_lt3 (bs : List UInt8) (k : Nat) (h : k ≤ 3) : getB (bs.take k) < 16777216 :=
  Nat.lt_of_lt_of_le (getB_lt _) (Nat.le_trans (Nat.pow_le_pow_right (by decide) (Nat.le_trans (List.length_take_le _ _) h)) (by decide))
/-- The program's step: shifted by eight bits, and the byte laid in. -/
theorem or_step (m : Nat) (b : Int) (hm : m < 16777216) (h0 : 0 ≤ b) (h1 : b ≤ 255) : bits .or .u32 ((m : Int) * 256) b = (m : Int) * 256 + b := by
  obtain ⟨b, rfl⟩ := Int.eq_ofNat_of_zero_le h0
  have h2 : b < 2 ^ 8 := by omega
  rw [show ((m : Int) * 256) = ((m * 256 : Nat) : Int) by omega, u32_or_nat _ _ (by omega) (by omega), show m * 256 = m <<< 8 by rw [Nat.shiftLeft_eq], ← Nat.shiftLeft_add_eq_or_of_lt h2, Nat.shiftLeft_eq]
  omega

theorem getB_put4 (v : Nat) (h : v < 4294967296) : getB (putB v 4) = v := by
  have e4 : putB v 4 = [UInt8.ofNat (v / 16777216 % 256), UInt8.ofNat (v / 65536 % 256), UInt8.ofNat (v / 256 % 256), UInt8.ofNat (v / 1 % 256)] := rfl
  rw [e4]
  simp only [getB, List.foldl_cons, List.foldl_nil, UInt8.toNat_ofNat']
  omega

end Go.Proofs.Ytiabacnmmojfjaa

