/- From what a row says of an argument (it reads as data of its type) to how it lies in memory ('Cod'): numbers, bytes, structs, lists. No program in it. -/
import Derived.Test.YtiabacnmmojfjabGreatDoorCod
import Derived.OpenShut
import Derived.ChangeSlices
import Derived.Deep.Slices
import Derived.Test.YtiabacnmmojfjabGreatDoorJoint1
namespace Go.Proofs.YtiabacnmmojfjabGreatDoor
open Go.ChangeShapes Go.WideShapes Go.RowKit

/-- Cells that read as data of this type are cells of this kind of data. -/
def Opens {α : Type} {H : Type} (enc : TypeId × Value → H) (P : Program) (w : World) (c : Cod α) (t : TypeId) : Prop :=
  ∀ (fuel : Nat) (cs : List Value) (x : DataW H × List MemPlace), DataW.trod enc P w 0 (fun _ => true) true fuel t cs = some x → ∃ a, c.rep w a cs

section
variable {H : Type} {enc : TypeId × Value → H} {P : Program} {w : World}

theorem opens_int {t : TypeId} {k : IntKind} (ht : P.underlying t = some (.int k)) : Opens enc P w (intC k) t := fun fuel cs x h => by
  cases fuel with
  | zero => simp [DataW.trod] at h
  | succ fuel =>
    unfold DataW.trod at h
    rw [ht] at h
    split at h <;> simp_all
    obtain ⟨⟨rfl, -⟩, -⟩ := h
    exact ⟨_, rfl⟩

theorem opens_bytes {t e : TypeId} (ht : P.underlying t = some (.slice e)) (he : P.underlying e = some (.int .u8)) (hc : P.cellsOf e = 1) : Opens enc P w bytC t := fun fuel cs x h => by
  rcases open_ints ht he hc h with ⟨hcs, -⟩ | ⟨ad, l, c, zs, hcs, _, hl, hm, hz, _, hcell, hwz⟩
  · exact ⟨[], none, 0, hcs, by simp, by simp [maxLen], fun _ => rfl, fun hp => by simp at hp⟩
  · obtain ⟨bs, e1, r⟩ := rd_of (w := w) (a := some ad) (len := l) (cap := c) (zs := zs) (.inr ⟨ad, rfl, hl, hm, by simpa using hz, hcell, hwz⟩)
    exact ⟨bs, some ad, c, by rw [← e1]; exact hcs, r⟩

theorem cells_at {a : Addr} {n : Nat} {cs : List Value} (h : w.cells? 0 a n = some cs) : cs.length = n ∧ ∀ j u, cs[j]? = some u → w.cell? (a.add j) = some u := by
  obtain ⟨-, hl, hc⟩ := World.cells?_some h
  refine ⟨hl, fun j u hj => ?_⟩
  have hlt := (List.getElem?_eq_some_iff.1 hj).1
  rw [← hj]
  exact hc j (by omega)

theorem opens_list {α : Type} {t e e' : TypeId} {c : Cod α} (ht : P.underlying t = some (.slice e)) (hc : P.cellsOf e = c.n) (hp : 0 < c.n) (ho : Opens enc P w c e) : Opens enc P w (listC e' c) t := fun fuel cs x h => by
  classical
  rcases Go.Deep.open_slice ht h with ⟨hcs, -⟩ | ⟨ad, len, cap, m, n, D, Pl, hcs, _, hl, hm, hmm, _, hx⟩
  · exact ⟨[], none, 0, hcs, by simp, by simp [maxLen], fun _ => rfl, fun hp => by simp at hp⟩
  · have hm' : m = cap := by rw [hmm]; simp
    have key : ∀ i, i < len → ∃ y : α × List Value, c.rep w y.1 y.2 ∧ ∀ j u, y.2[j]? = some u → w.cell? (ad.add (i * c.n + j)) = some u := fun i hi => by
      obtain ⟨cs', h1, h2⟩ := hx i (by omega)
      obtain ⟨a, ha⟩ := ho _ _ _ h2
      rw [hc] at h1
      refine ⟨(a, cs'), ha, fun j u hj => ?_⟩
      rw [← Go.Deep.add_add]
      exact (cells_at h1).2 j u hj
    have hlist : ∀ k, k ≤ len → ∃ l : List α, l.length = k ∧ ∀ i a, l[i]? = some a → ∃ us, c.rep w a us ∧ ∀ j u, us[j]? = some u → w.cell? (ad.add (i * c.n + j)) = some u := by
      intro k
      induction k with
      | zero => exact fun _ => ⟨[], rfl, fun i a hi => by simp at hi⟩
      | succ k ih =>
        intro hk
        obtain ⟨l, hll, hlc⟩ := ih (by omega)
        obtain ⟨y, hy, hyc⟩ := key k (by omega)
        refine ⟨l ++ [y.1], by simp [hll], fun i a hi => ?_⟩
        by_cases hik : i < l.length
        · rw [List.getElem?_append_left hik] at hi
          exact hlc i a hi
        · rw [List.getElem?_append_right (by omega)] at hi
          have hi0 : i - l.length = 0 := by
            have := (List.getElem?_eq_some_iff.1 hi).1
            simp at this; omega
          rw [hi0] at hi
          simp at hi
          subst hi
          have hik' : i = k := by omega
          subst hik'
          exact ⟨y.2, hy, hyc⟩
    obtain ⟨l, hll, hlc⟩ := hlist len (Nat.le_refl _)
    subst hll
    refine ⟨l, some ad, cap, hcs, hl, hm, fun e => by simp at e, fun hp0 => ?_⟩
    obtain ⟨b, o, sp⟩ := ad
    obtain ⟨a0, ha0⟩ : ∃ a, l[0]? = some a := ⟨l[0], by simp [hp0]⟩
    obtain ⟨us, hr, hu⟩ := hlc 0 a0 ha0
    have hul := c.len hr
    have h0 := hu 0 (us[0]'(by omega)) (by simp)
    have hsp : sp = none := by
      have := World.cell?_spot h0
      simpa [Addr.add] using this
    subst hsp
    refine ⟨b, o, rfl, fun i a hi => ?_⟩
    obtain ⟨us, hr, hu⟩ := hlc i a hi
    refine ⟨us, hr, fun j u hj => ?_⟩
    have := hu j u hj
    rw [addr_add, ← Nat.add_assoc] at this
    exact this

/-- Fields from an offset on. -/
def OpensF {α : Type} {H : Type} (enc : TypeId × Value → H) (P : Program) (w : World) (c : Cod α) (off : Nat) (fs : List Field) : Prop :=
  ∀ (fuel : Nat) (cs : List Value) (xs : List (DataW H × List MemPlace)), cs.length = off + c.n → (fs.mapM fun f => DataW.trod enc P w 0 (fun _ => true) true fuel f.type ((cs.drop f.offset).take (P.cellsOf f.type))) = some xs → ∃ a, c.rep w a (cs.drop off)

theorem opensF_one {α : Type} {c : Cod α} {off : Nat} {f : Field} (hf : f.offset = off) (hn : P.cellsOf f.type = c.n) (h : Opens enc P w c f.type) : OpensF enc P w c off [f] := fun fuel cs xs hl hx => by
  simp only [List.mapM_cons, List.mapM_nil, Option.pure_def, Option.bind_eq_bind, Option.bind_eq_some_iff] at hx
  obtain ⟨x, hx1, -⟩ := hx
  rw [hf, hn, List.take_of_length_le (by rw [List.length_drop]; omega)] at hx1
  exact h _ _ _ hx1
theorem opensF_cons {α β : Type} {c : Cod α} {d : Cod β} {off : Nat} {f : Field} {fs : List Field} (hf : f.offset = off) (hn : P.cellsOf f.type = c.n) (h : Opens enc P w c f.type) (hs : OpensF enc P w d (off + c.n) fs) : OpensF enc P w (prodC c d) off (f :: fs) := fun fuel cs xs hl hx => by
  simp only [List.mapM_cons, Option.pure_def, Option.bind_eq_bind, Option.bind_eq_some_iff] at hx
  obtain ⟨x, hx1, ys, hys, -⟩ := hx
  rw [hf, hn] at hx1
  obtain ⟨a, ha⟩ := h _ _ _ hx1
  obtain ⟨b, hb⟩ := hs fuel cs ys (by rw [hl]; show off + (c.n + d.n) = _; omega) hys
  refine ⟨(a, b), _, _, ?_, ha, hb⟩
  rw [← List.drop_drop, List.take_append_drop]
theorem opens_struct {α : Type} {t : TypeId} {c : Cod α} {fs : Array Field} (ht : P.underlying t = some (.struct fs)) (hn : P.cellsOf t = c.n) (h : OpensF enc P w c 0 fs.toList) : Opens enc P w c t := fun fuel cs x hx => by
  cases fuel with
  | zero => simp [DataW.trod] at hx
  | succ fuel =>
    unfold DataW.trod at hx
    rw [ht] at hx
    simp only [hn] at hx
    split at hx
    · rename_i hl
      obtain ⟨xs, hxs, -⟩ := Option.map_eq_some_iff.1 hx
      obtain ⟨a, ha⟩ := h fuel cs xs (by rw [Nat.zero_add]; exact hl) hxs
      exact ⟨a, by simpa using ha⟩
    · cases hx
end
end Go.Proofs.YtiabacnmmojfjabGreatDoor

/- What is known of a stretch of memory, for the walks of the 'exact' laws: a fact that hangs on the blocks from lo up to hi alone (Win), and what a call that writes in one stretch alone leaves (Seg). No program in it. -/
namespace Go.Proofs.YtiabacnmmojfjabGreatDoor
open Go.RowKit

structure Win (F : World → Prop) (lo hi : Nat) (w : World) : Prop where
  now : F w
  top : hi ≤ w.heap.size
  fr : ∀ w' : World, (∀ k, lo ≤ k → k < hi → w'.heap[k]? = w.heap[k]?) → F w'
/-- Just the blocks from lo up to hi may be other than they were. -/
structure Seg (lo hi : Nat) (w w' : World) : Prop where
  os : w'.os = w.os
  tape : w'.tape = w.tape
  output : w'.output = w.output
  size : w.heap.size ≤ w'.heap.size
  block : ∀ k, k < w.heap.size → (k < lo ∨ hi ≤ k) → w'.heap[k]? = w.heap[k]?

theorem Win.move {F : World → Prop} {lo hi : Nat} {w w' : World} (h : Win F lo hi w) (ht : w.heap.size ≤ w'.heap.size) (hs : ∀ k, lo ≤ k → k < hi → w'.heap[k]? = w.heap[k]?) : Win F lo hi w' :=
  ⟨h.fr w' hs, Nat.le_trans h.top ht, fun w'' h2 => h.fr w'' fun k h3 h4 => (h2 k h3 h4).trans (hs k h3 h4)⟩
theorem Win.stay {F : World → Prop} {lo hi : Nat} {w w' : World} (h : Win F lo hi w) (hb : Below w.heap.size w w') : Win F lo hi w' :=
  h.move hb.size fun k _ h2 => hb.block k (Nat.lt_of_lt_of_le h2 h.top)
theorem Win.seg {F : World → Prop} {lo hi a b : Nat} {w w' : World} (h : Win F lo hi w) (hs : Seg a b w w') (hd : hi ≤ a ∨ b ≤ lo) : Win F lo hi w' :=
  h.move hs.size fun k h1 h2 => hs.block k (Nat.lt_of_lt_of_le h2 h.top) (by omega)
theorem Below.seg {W a b : World} {lo hi : Nat} (h : Below W.heap.size W a) (hs : Seg lo hi a b) (hl : W.heap.size ≤ lo) : Below W.heap.size W b :=
  ⟨hs.os.trans h.os, hs.tape.trans h.tape, hs.output.trans h.output, Nat.le_trans h.size hs.size, fun k hk => (hs.block k (Nat.lt_of_lt_of_le hk h.size) (by omega)).trans (h.block k hk)⟩
theorem Only.seg {fp : List Nat} {lo hi : Nat} {w w' : World} (h : Only fp w w') (hin : ∀ k, k ∈ fp → lo ≤ k ∧ k < hi) : Seg lo hi w w' :=
  ⟨h.os, h.tape, h.output, h.size, fun k hk hn => h.block k hk fun e => by have := hin k e; omega⟩
theorem grown_seg {row : Option Nat} {lo hi : Nat} {w w' : World} (h : w.grownBy w' row) (hin : ∀ k, k ∈ row.toList → lo ≤ k ∧ k < hi) : Seg lo hi w w' := (Only.grown h).seg hin

/-- Bytes of one's own; where they lie. -/
theorem Own.win {w : World} {B lo hi : Nat} {v : Value} {bs : List UInt8} (h : Own w B v bs) (ht : hi ≤ w.heap.size) (hin : ∀ k, k ∈ v.ownBlock.toList → lo ≤ k ∧ k < hi) : Win (fun w => Own w B v bs) lo hi w :=
  ⟨h, ht, fun w' hs => by
    have h2 : bytC.own w' B bs [v] v.ownBlock.toList := bytC.fr (w := w) ⟨v, rfl, h, rfl⟩ fun k hk => hs k (hin k hk).1 (hin k hk).2
    obtain ⟨v', e, h3, -⟩ := h2
    simp only [List.cons.injEq, and_true] at e
    rw [e]
    exact h3⟩
theorem Own.ins {w : World} {B : Nat} {v : Value} {bs : List UInt8} (h : Own w B v bs) : ∀ k, k ∈ v.ownBlock.toList → B ≤ k ∧ k < w.heap.size := fun k hk => ⟨h.ge k (mem_opt.1 hk), h.lt k (mem_opt.1 hk)⟩
theorem OwnL.win {α : Type} {e : TypeId} {c : Cod α} {w : World} {B lo hi : Nat} {v : Value} {l : List α} {xs : List Value} {fp : List Nat} (h : OwnL e c w B v l xs fp) (ht : hi ≤ w.heap.size) (hin : ∀ k, k ∈ v.ownBlock.toList ++ fp → lo ≤ k ∧ k < hi) : Win (fun w => OwnL e c w B v l xs fp) lo hi w :=
  ⟨h, ht, fun _ hs => h.fr fun k hk => hs k (hin k hk).1 (hin k hk).2⟩
theorem RdL.own {α : Type} {e : TypeId} {c : Cod α} {w : World} {B n q : Nat} {p : Option Addr} {l : List α} {xs : List Value} {fp : List Nat} (h : OwnL e c w B (.slice p n q) l xs fp) : RdL c w p q l := by
  obtain ⟨p', q', e1, hr⟩ := h.rd
  simp only [Value.slice.injEq] at e1
  obtain ⟨rfl, -, rfl⟩ := e1
  exact hr
/-- Data of whatever kind. -/
theorem Cod.own.ins {α : Type} {c : Cod α} {w : World} {B : Nat} {a : α} {us : List Value} {fp : List Nat} (h : c.own w B a us fp) : ∀ k, k ∈ fp → B ≤ k ∧ k < w.heap.size := c.ins h
theorem Cod.own.win {α : Type} {c : Cod α} {w : World} {B lo hi : Nat} {a : α} {us : List Value} {fp : List Nat} (h : c.own w B a us fp) (ht : hi ≤ w.heap.size) (hin : ∀ k, k ∈ fp → lo ≤ k ∧ k < hi) : Win (fun w => c.own w B a us fp) lo hi w :=
  ⟨h, ht, fun _ hs => c.fr h fun k hk => hs k (hin k hk).1 (hin k hk).2⟩
/-- A local's cells. -/
theorem Has.win {w : World} {b : Nat} {v : Value} {vs : List Value} (h : Has w b (v :: vs)) : Win (fun w => Has w b (v :: vs)) b (b + 1) w :=
  ⟨h, h.lt, fun _ hs i u hu => by
    rw [World.cell?_of_block (a := ⟨b, i, none⟩) (hs b (Nat.le_refl _) (Nat.lt_succ_self _))]
    exact h i u hu⟩
end Go.Proofs.YtiabacnmmojfjabGreatDoor

/- Numbers as bytes, with no program in it: putB v k: the k lowest bytes of v, the highest one first; getB: the number that bytes are. -/
namespace Go.Proofs.YtiabacnmmojfjabGreatDoor
open Go.RowKit

def putB (v : Nat) : Nat → List UInt8
  | 0 => []
  | k + 1 => UInt8.ofNat (v / 256 ^ k % 256) :: putB v k
theorem putB_len (v k : Nat) : (putB v k).length = k := by
  induction k with
  | zero => rfl
  | succ k ih => simp [putB, ih]
/-- What a loop that fills a row from its last element on has laid behind k rounds. -/
def tailed (v n k : Nat) : List Value := List.replicate (n - k) (.int .u8 0) ++ (putB v k).map u8v
theorem tailed_zero (v n : Nat) : tailed v n 0 = List.replicate n (.int .u8 0) := by simp [tailed, putB]
theorem tailed_all (v n : Nat) : tailed v n n = (putB v n).map u8v := by simp [tailed]
theorem tailed_len (v n k : Nat) (h : k ≤ n) : (tailed v n k).length = n := by simp [tailed, putB_len]; omega
theorem tailed_at (v n k : Nat) (h : k < n) : (tailed v n k)[n - 1 - k]? = some (.int .u8 0) := by
  unfold tailed
  rw [List.getElem?_append_left (by simp; omega), List.getElem?_replicate, if_pos (by omega)]
theorem tailed_set (v n k : Nat) (h : k < n) : (tailed v n k).set (n - 1 - k) (.int .u8 ((v / 256 ^ k % 256 : Nat) : Int)) = tailed v n (k + 1) := by
  have e : u8v (UInt8.ofNat (v / 256 ^ k % 256)) = .int .u8 ((v / 256 ^ k % 256 : Nat) : Int) := by
    unfold u8v; rw [UInt8.toNat_ofNat', Nat.mod_mod]
  unfold tailed
  rw [show n - k = (n - (k + 1)) + 1 by omega, List.replicate_succ', List.append_assoc, List.set_append_right _ _ (by simp; omega)]
  rw [List.length_replicate, show n - 1 - k - (n - (k + 1)) = 0 by omega]
  simp only [putB, List.map_cons, e]
  rfl

def getB (bs : List UInt8) : Nat := bs.foldl (fun n b => n * 256 + b.toNat) 0
theorem getB_snoc (bs : List UInt8) (b : UInt8) : getB (bs ++ [b]) = getB bs * 256 + b.toNat := by simp [getB]
theorem getB_take (bs : List UInt8) (k : Nat) (h : k < bs.length) : ((getB (bs.take (k + 1)) : Nat) : Int) = (getB (bs.take k) : Int) * 256 + at8 bs k := by
  rw [List.take_succ_eq_append_getElem h, getB_snoc, at8_get h]; omega
theorem getB_lt (bs : List UInt8) : getB bs < 256 ^ bs.length := by
  suffices h : ∀ (bs : List UInt8) (m k : Nat), m < 256 ^ k → bs.foldl (fun n b => n * 256 + b.toNat) m < 256 ^ (k + bs.length) by
    have := h bs 0 0 (by decide); simpa [getB] using this
  intro bs
  induction bs with
  | nil => intro m k hm; simpa using hm
  | cons b bs ih =>
    intro m k hm
    have hb := b.toNat_lt
    have := ih (m * 256 + b.toNat) (k + 1) (by rw [Nat.pow_succ]; omega)
    rw [List.foldl_cons, List.length_cons, show k + (bs.length + 1) = k + 1 + bs.length by omega]
    exact this
theorem getB_take_lt (bs : List UInt8) (k : Nat) (h : k ≤ 4) : getB (bs.take k) < 4294967296 :=
  Nat.lt_of_lt_of_le (getB_lt _) (Nat.le_trans (Nat.pow_le_pow_right (by decide) (Nat.le_trans (List.length_take_le _ _) h)) (by decide))
theorem getB_take_lt3 (bs : List UInt8) (k : Nat) (h : k ≤ 3) : getB (bs.take k) < 16777216 :=
  Nat.lt_of_lt_of_le (getB_lt _) (Nat.le_trans (Nat.pow_le_pow_right (by decide) (Nat.le_trans (List.length_take_le _ _) h)) (by decide))
/-- The program's step: shifted by eight bits, and the byte laid in. -/
theorem or_step (m : Nat) (b : Int) (hm : m < 16777216) (h0 : 0 ≤ b) (h1 : b ≤ 255) : bits .or .u32 ((m : Int) * 256) b = (m : Int) * 256 + b := by
  obtain ⟨b, rfl⟩ := Int.eq_ofNat_of_zero_le h0
  have h2 : b < 2 ^ 8 := by omega
  rw [show ((m : Int) * 256) = ((m * 256 : Nat) : Int) by omega, u32_or_nat _ _ (by omega) (by omega), show m * 256 = m <<< 8 by rw [Nat.shiftLeft_eq], ← Nat.shiftLeft_add_eq_or_of_lt h2, Nat.shiftLeft_eq]
  omega

theorem getB_put4 (v : Nat) (h : v < 4294967296) : getB (putB v 4) = v := by
  have e4 : putB v 4 = [UInt8.ofNat (v / 16777216 % 256), UInt8.ofNat (v / 65536 % 256), UInt8.ofNat (v / 256 % 256), UInt8.ofNat (v / 1 % 256)] := rfl
  rw [e4]
  simp only [getB, List.foldl_cons, List.foldl_nil, UInt8.toNat_ofNat']
  omega

end Go.Proofs.YtiabacnmmojfjabGreatDoor

/- Chapter 6 as plain functions on messages and bytes, with no program in it: a message's fault and bytes (faultM, packN, packAll), messages read from bytes (unpackR), blocks' bytes (blksN), blocks read from bytes (splitR); that each is read back from the other. No conditions but those in each line. -/
namespace Go.Proofs.YtiabacnmmojfjabGreatDoor
open Go.RowKit

def faultW (k : Int) (n : Nat) : Int := if inB k 0 255 then (if n ≤ 160 then 0 else 2) else 3
def packW (k : Int) (b : List UInt8) : List UInt8 := mark8 k :: (putB b.length 3 ++ b)
theorem packW_len (k : Int) (b : List UInt8) : (packW k b).length = b.length + 4 := by simp [packW, putB_len]; omega
def packAll (l : List (Int × List UInt8)) : List UInt8 := l.flatMap fun a => packW a.1 a.2
theorem packAll_append (l r : List (Int × List UInt8)) : packAll (l ++ r) = packAll l ++ packAll r := by simp [packAll]
theorem packAll_one (a : Int × List UInt8) : packAll [a] = packW a.1 a.2 := by simp [packAll]
theorem packAll_cons (a : Int × List UInt8) (l : List (Int × List UInt8)) : packAll (a :: l) = packW a.1 a.2 ++ packAll l := by simp [packAll]
theorem packAll_take {l : List (Int × List UInt8)} {k : Nat} {a : Int × List UInt8} (h : l[k]? = some a) : packAll (l.take (k + 1)) = packAll (l.take k) ++ packW a.1 a.2 := by
  rw [List.take_add_one, h, packAll_append]; simp [packAll]
theorem packAll_le (l : List (Int × List UInt8)) (k : Nat) : (packAll (l.take k)).length ≤ (packAll l).length := by
  conv => rhs; rw [← List.take_append_drop k l, packAll_append, List.length_append]
  omega
def firstF : List (Int × List UInt8) → Int
  | [] => 0
  | a :: l => if faultW a.1 a.2.length = 0 then firstF l else faultW a.1 a.2.length
theorem firstF_at {l : List (Int × List UInt8)} {k : Nat} {a : Int × List UInt8} (h : l[k]? = some a) (hz : ∀ (j : Nat) (b : Int × List UInt8), j < k → l[j]? = some b → faultW b.1 b.2.length = 0) (hn : ¬ faultW a.1 a.2.length = 0) : firstF l = faultW a.1 a.2.length := by
  induction l generalizing k with
  | nil => simp at h
  | cons b l ih =>
    cases k with
    | zero => simp at h; subst h; rw [firstF, if_neg hn]
    | succ k =>
      rw [firstF, if_pos (hz 0 b (by omega) rfl)]
      exact ih (by simpa using h) fun j c hj hc => hz (j + 1) c (by omega) (by simpa using hc)
theorem firstF_zero {l : List (Int × List UInt8)} : (∀ (j : Nat) (b : Int × List UInt8), l[j]? = some b → faultW b.1 b.2.length = 0) → firstF l = 0 := by
  induction l with
  | nil => intro _; rfl
  | cons b l ih => intro h; rw [firstF, if_pos (h 0 b rfl)]; exact ih fun j c hc => h (j + 1) c (by simpa using hc)
theorem firstF_all {l : List (Int × List UInt8)} (h : firstF l = 0) : ∀ a ∈ l, faultW a.1 a.2.length = 0 := by
  induction l with
  | nil => intro a ha; cases ha
  | cons b l ih =>
    unfold firstF at h
    split at h
    · rename_i h1
      intro a ha
      rcases List.mem_cons.1 ha with rfl | h2
      · exact h1
      · exact ih h a h2
    · rename_i h1; exact absurd h h1
def psC (l : List (Int × List UInt8)) : Int := if l.length ≤ 12 then (if firstF l = 0 then (if (packAll l).length ≤ 600 then 0 else 2) else firstF l) else 2
def psL (l : List (Int × List UInt8)) : List UInt8 := if psC l = 0 then packAll l else []
theorem faultW_cases (k : Int) (n : Nat) : faultW k n = 0 ∨ faultW k n = 2 ∨ faultW k n = 3 := by
  unfold faultW; split
  · split
    · exact .inl rfl
    · exact .inr (.inl rfl)
  · exact .inr (.inr rfl)
theorem faultW_zero {k : Int} {n : Nat} (h : faultW k n = 0) : inB k 0 255 = true ∧ n ≤ 160 := by
  unfold faultW at h
  split at h
  · rename_i h1
    split at h
    · rename_i h2; exact ⟨h1, h2⟩
    · cases h
  · cases h
theorem psC_zero {l : List (Int × List UInt8)} (h : psC l = 0) : l.length ≤ 12 ∧ firstF l = 0 ∧ (packAll l).length ≤ 600 := by
  unfold psC at h
  split at h
  · rename_i h1
    split at h
    · rename_i h2
      split at h
      · rename_i h3; exact ⟨h1, h2, h3⟩
      · cases h
    · rename_i h2; exact absurd h h2
  · cases h
theorem psL_len (l : List (Int × List UInt8)) : (psL l).length ≤ 1048576 := by
  unfold psL; split
  · rename_i h; have := (psC_zero h).2.2; omega
  · simp

/-- How many bytes a message's body has, as its four bytes at a place tell. -/
def lenAt (data : List UInt8) (at_ : Nat) : Nat := getB ((data.drop (at_ + 1)).take 3)
def bodyAt (data : List UInt8) (at_ : Nat) : List UInt8 := (data.drop (at_ + 4)).take (lenAt data at_)
def msgAt (data : List UInt8) (at_ : Nat) : Int × List UInt8 := (at8 data at_, bodyAt data at_)
/-- Messages read from a place on, behind those that are read already: code, place, messages. -/
def unpackR (data : List UInt8) (at_ : Nat) (out : List (Int × List UInt8)) : Int × Int × List (Int × List UInt8) :=
  if at_ < data.length then
    if data.length - at_ < 4 then (5, at_, [])
    else if 160 < lenAt data at_ ∨ 12 ≤ out.length then (2, at_, [])
    else if data.length - at_ - 4 < lenAt data at_ then (5, at_, [])
    else unpackR data (at_ + 4 + lenAt data at_) (out ++ [msgAt data at_])
  else (0, 0, out)
termination_by data.length - at_
def umC (data : List UInt8) : Int × Int × List (Int × List UInt8) := if data.length ≤ 600 then unpackR data 0 [] else (2, 0, [])

theorem unpackR_end {data : List UInt8} {at_ : Nat} {out : List (Int × List UInt8)} (h : ¬ at_ < data.length) : unpackR data at_ out = (0, 0, out) := by rw [unpackR, if_neg h]
theorem unpackR_short {data : List UInt8} {at_ : Nat} {out : List (Int × List UInt8)} (h : at_ < data.length) (h1 : data.length - at_ < 4) : unpackR data at_ out = (5, (at_ : Int), []) := by rw [unpackR, if_pos h, if_pos h1]
theorem unpackR_many {data : List UInt8} {at_ : Nat} {out : List (Int × List UInt8)} (h : at_ < data.length) (h1 : ¬ data.length - at_ < 4) (h2 : 160 < lenAt data at_ ∨ 12 ≤ out.length) : unpackR data at_ out = (2, (at_ : Int), []) := by rw [unpackR, if_pos h, if_neg h1, if_pos h2]
theorem unpackR_less {data : List UInt8} {at_ : Nat} {out : List (Int × List UInt8)} (h : at_ < data.length) (h1 : ¬ data.length - at_ < 4) (h2 : ¬ (160 < lenAt data at_ ∨ 12 ≤ out.length)) (h3 : data.length - at_ - 4 < lenAt data at_) : unpackR data at_ out = (5, (at_ : Int), []) := by rw [unpackR, if_pos h, if_neg h1, if_neg h2, if_pos h3]
theorem unpackR_next {data : List UInt8} {at_ : Nat} {out : List (Int × List UInt8)} (h : at_ < data.length) (h1 : ¬ data.length - at_ < 4) (h2 : ¬ (160 < lenAt data at_ ∨ 12 ≤ out.length)) (h3 : ¬ data.length - at_ - 4 < lenAt data at_) : unpackR data at_ out = unpackR data (at_ + 4 + lenAt data at_) (out ++ [msgAt data at_]) := by
  conv => lhs; rw [unpackR, if_pos h, if_neg h1, if_neg h2, if_neg h3]

theorem getB_put3 (v : Nat) (h : v < 16777216) : getB (putB v 3) = v := by
  have e4 : putB v 3 = [UInt8.ofNat (v / 65536 % 256), UInt8.ofNat (v / 256 % 256), UInt8.ofNat (v / 1 % 256)] := rfl
  rw [e4]
  simp only [getB, List.foldl_cons, List.foldl_nil, UInt8.toNat_ofNat']
  omega
/-- What stands behind a beginning. -/
theorem drop_past {α : Type} (xs ys : List α) (n : Nat) : (xs ++ ys).drop (xs.length + n) = ys.drop n := by
  rw [← List.drop_drop, List.drop_left]
theorem lenAt_pack (pre rest : List UInt8) (k : Int) (b : List UInt8) (hb : b.length ≤ 160) : lenAt (pre ++ (packW k b ++ rest)) pre.length = b.length := by
  unfold lenAt packW
  rw [drop_past, List.cons_append, List.drop_succ_cons, List.drop_zero, List.append_assoc, List.take_append_of_le_length (by rw [putB_len]; exact Nat.le_refl _), List.take_of_length_le (by rw [putB_len]; exact Nat.le_refl _), getB_put3 _ (by omega)]
theorem bodyAt_pack (pre rest : List UInt8) (k : Int) (b : List UInt8) (hb : b.length ≤ 160) : bodyAt (pre ++ (packW k b ++ rest)) pre.length = b := by
  unfold bodyAt
  rw [lenAt_pack pre rest k b hb, drop_past]
  unfold packW
  have e := drop_past (putB b.length 3) (b ++ rest) 0
  rw [putB_len, List.drop_zero] at e
  rw [List.cons_append, List.drop_succ_cons, List.append_assoc, e]
  exact List.take_left' rfl
theorem at8_pack (pre rest : List UInt8) (k : Int) (b : List UInt8) (hk : inB k 0 255 = true) : at8 (pre ++ (packW k b ++ rest)) pre.length = k := by
  unfold at8 packW
  rw [List.getD_eq_getElem?_getD, List.getElem?_append_right (Nat.le_refl _), Nat.sub_self, List.cons_append]
  simp only [List.getElem?_cons_zero, Option.getD_some]
  rw [mark8_nat]
  simp [inB] at hk
  omega
/-- Messages are read back from their bytes. -/
theorem unpack_pack : ∀ (l : List (Int × List UInt8)) (pre : List UInt8) (out : List (Int × List UInt8)), (∀ a ∈ l, faultW a.1 a.2.length = 0) → out.length + l.length ≤ 12 → unpackR (pre ++ packAll l) pre.length out = (0, 0, out ++ l)
  | [], pre, out, _, _ => by rw [unpackR_end (by simp [packAll]), List.append_nil]
  | a :: l, pre, out, hf, hl => by
    obtain ⟨hk, hb⟩ := faultW_zero (hf a List.mem_cons_self)
    have hlen : (pre ++ packAll (a :: l)).length = pre.length + (a.2.length + 4) + (packAll l).length := by rw [packAll_cons, List.length_append, List.length_append, packW_len]; omega
    have e1 : lenAt (pre ++ packAll (a :: l)) pre.length = a.2.length := by rw [packAll_cons]; exact lenAt_pack pre _ a.1 a.2 hb
    have e2 : msgAt (pre ++ packAll (a :: l)) pre.length = a := by
      unfold msgAt
      rw [packAll_cons, at8_pack pre _ a.1 a.2 hk, bodyAt_pack pre _ a.1 a.2 hb]
    simp only [List.length_cons] at hl
    rw [unpackR_next (by rw [hlen]; omega) (by rw [hlen]; omega) (by rw [e1]; omega) (by rw [hlen, e1]; omega), e1, e2]
    have h := unpack_pack l (pre ++ packW a.1 a.2) (out ++ [a]) (fun b hb => hf b (List.mem_cons_of_mem _ hb)) (by rw [List.length_append, List.length_singleton]; omega)
    rw [List.append_assoc, ← packAll_cons, List.length_append, packW_len, show pre.length + (a.2.length + 4) = pre.length + 4 + a.2.length by omega, List.append_assoc] at h
    exact h
theorem putB_getB3 (bs : List UInt8) (h : bs.length = 3) : putB (getB bs) 3 = bs := by
  match bs, h with
  | [a, b, c], _ =>
    have ha := a.toNat_lt
    have hb := b.toNat_lt
    have hc := c.toNat_lt
    have e4 : putB (getB [a, b, c]) 3 = [UInt8.ofNat (getB [a, b, c] / 65536 % 256), UInt8.ofNat (getB [a, b, c] / 256 % 256), UInt8.ofNat (getB [a, b, c] / 1 % 256)] := rfl
    have e5 : getB [a, b, c] = (a.toNat * 256 + b.toNat) * 256 + c.toNat := by simp [getB]
    rw [e4, e5]
    have u : ∀ (x : UInt8) (n : Nat), n = x.toNat → UInt8.ofNat n = x := fun x n hn => by rw [hn]; exact UInt8.ofNat_toNat
    rw [u a _ (by omega), u b _ (by omega), u c _ (by omega)]
theorem packW_at {data : List UInt8} {at_ : Nat} (h1 : ¬ data.length - at_ < 4) (h3 : ¬ data.length - at_ - 4 < lenAt data at_) (h : at_ < data.length) : packW (msgAt data at_).1 (msgAt data at_).2 = (data.drop at_).take (4 + lenAt data at_) := by
  have hb : (bodyAt data at_).length = lenAt data at_ := by unfold bodyAt; rw [List.length_take, List.length_drop]; omega
  have h3' : ((data.drop (at_ + 1)).take 3).length = 3 := by rw [List.length_take, List.length_drop]; omega
  unfold packW msgAt
  simp only
  rw [hb]
  have e1 : putB (lenAt data at_) 3 = (data.drop (at_ + 1)).take 3 := by unfold lenAt; exact putB_getB3 _ h3'
  rw [e1]
  unfold bodyAt
  have e2 : mark8 (at8 data at_) = data[at_] := by
    unfold mark8
    rw [at8_get h]
    have := data[at_].toNat_lt
    rw [show (((data[at_].toNat : Nat) : Int) % 256).toNat = data[at_].toNat by omega, UInt8.ofNat_toNat]
  rw [e2]
  have e3 : data.drop at_ = data[at_] :: data.drop (at_ + 1) := List.drop_eq_getElem_cons h
  rw [e3, show 4 + lenAt data at_ = (3 + lenAt data at_) + 1 by omega, List.take_succ_cons, List.take_add, List.drop_drop]
theorem packAll_msg {data : List UInt8} {at_ : Nat} (h1 : ¬ data.length - at_ < 4) (h3 : ¬ data.length - at_ - 4 < lenAt data at_) (h : at_ < data.length) (out : List (Int × List UInt8)) (ho : packAll out = data.take at_) : packAll (out ++ [msgAt data at_]) = data.take (at_ + 4 + lenAt data at_) := by
  rw [packAll_append, packAll_one, packW_at h1 h3 h, ho, Nat.add_assoc]
  exact (List.take_add (i := at_) (j := 4 + lenAt data at_) (l := data)).symm
/-- Bytes that are read as messages are theirs, and these have no fault. -/
theorem pack_unpack (data : List UInt8) : ∀ (m at_ : Nat) (out : List (Int × List UInt8)) (r : Int × Int × List (Int × List UInt8)), data.length - at_ ≤ m → at_ ≤ data.length → packAll out = data.take at_ → out.length ≤ 12 → (∀ a ∈ out, faultW a.1 a.2.length = 0) → unpackR data at_ out = r → r.1 = 0 → packAll r.2.2 = data ∧ r.2.2.length ≤ 12 ∧ ∀ a ∈ r.2.2, faultW a.1 a.2.length = 0
  | 0, at_, out, r, hm, hle, ho, hl, hf, hr, hz => by
    rw [unpackR_end (by omega)] at hr
    subst hr
    exact ⟨by rw [ho]; exact List.take_of_length_le (by omega), hl, hf⟩
  | m + 1, at_, out, r, hm, hle, ho, hl, hf, hr, hz => by
    by_cases h : at_ < data.length
    · by_cases h1 : data.length - at_ < 4
      · rw [unpackR_short h h1] at hr; subst hr; cases hz
      · by_cases h2 : 160 < lenAt data at_ ∨ 12 ≤ out.length
        · rw [unpackR_many h h1 h2] at hr; subst hr; cases hz
        · by_cases h3 : data.length - at_ - 4 < lenAt data at_
          · rw [unpackR_less h h1 h2 h3] at hr; subst hr; cases hz
          · rw [unpackR_next h h1 h2 h3] at hr
            refine pack_unpack data m _ _ r (by omega) (by omega) (packAll_msg h1 h3 h out ho) (by rw [List.length_append, List.length_singleton]; omega) (fun a ha => ?_) hr hz
            rcases List.mem_append.1 ha with h4 | h4
            · exact hf a h4
            · rw [List.mem_singleton.1 h4]
              have hb : (bodyAt data at_).length = lenAt data at_ := by unfold bodyAt; rw [List.length_take, List.length_drop]; omega
              have hk : inB (at8 data at_) 0 255 = true := inB_true (at8_lo _ _) (at8_hi _ _)
              show faultW (at8 data at_) (bodyAt data at_).length = 0
              rw [hb, faultW, if_pos hk, if_pos (by omega)]
    · rw [unpackR_end h] at hr
      subst hr
      exact ⟨by rw [ho]; exact List.take_of_length_le (by omega), hl, hf⟩

/-- A block's bytes; blocks'. -/
def blkW (b : List UInt8) : List UInt8 := mark8 (b.length : Int) :: b
def blksN (l : List (List UInt8)) : List UInt8 := l.flatMap blkW
theorem blkW_len (b : List UInt8) : (blkW b).length = b.length + 1 := by simp [blkW]
theorem blksN_append (l r : List (List UInt8)) : blksN (l ++ r) = blksN l ++ blksN r := by simp [blksN]
theorem blksN_cons (b : List UInt8) (l : List (List UInt8)) : blksN (b :: l) = blkW b ++ blksN l := by simp [blksN]
theorem blksN_one (b : List UInt8) : blksN [b] = blkW b := by simp [blksN]
theorem blksN_take {l : List (List UInt8)} {k : Nat} {b : List UInt8} (h : l[k]? = some b) : blksN (l.take (k + 1)) = blksN (l.take k) ++ blkW b := by
  rw [List.take_add_one, h, blksN_append]; simp [blksN]
theorem blksN_le (l : List (List UInt8)) (k : Nat) : (blksN (l.take k)).length ≤ (blksN l).length := by
  conv => rhs; rw [← List.take_append_drop k l, blksN_append, List.length_append]
  omega
def okBl (l : List (List UInt8)) : Bool := l.all fun b => decide (b.length ≤ 120)
def pbC (l : List (List UInt8)) : Int := if l.length ≤ 8 ∧ okBl l = true ∧ (blksN l).length ≤ 160 then 0 else 2
def pbL (l : List (List UInt8)) : List UInt8 := if pbC l = 0 then blksN l else []
theorem pbC_zero {l : List (List UInt8)} (h : pbC l = 0) : l.length ≤ 8 ∧ okBl l = true ∧ (blksN l).length ≤ 160 := by
  unfold pbC at h
  split at h
  · assumption
  · cases h
theorem pbL_len (l : List (List UInt8)) : (pbL l).length ≤ 1048576 := by
  unfold pbL; split
  · rename_i h; have := (pbC_zero h).2.2; omega
  · simp
theorem okBl_at {l : List (List UInt8)} (h : okBl l = true) {b : List UInt8} (hb : b ∈ l) : b.length ≤ 120 := by
  have := (List.all_eq_true.1 h) b hb
  simpa using this
theorem okBl_of {l : List (List UInt8)} (h : ∀ (j : Nat) (b : List UInt8), l[j]? = some b → b.length ≤ 120) : okBl l = true := by
  rw [okBl, List.all_eq_true]
  intro b hb
  obtain ⟨i, hi, rfl⟩ := List.mem_iff_getElem.1 hb
  simpa using h i _ (by simp [hi])
theorem okBl_not {l : List (List UInt8)} {j : Nat} {b : List UInt8} (h : l[j]? = some b) (hb : ¬ b.length ≤ 120) : okBl l = false := by
  rw [okBl, List.all_eq_false]
  exact ⟨b, List.mem_of_getElem? h, by simpa using hb⟩
def numAt (data : List UInt8) (at_ : Nat) : Nat := (data.getD at_ 0).toNat
def blkAt (data : List UInt8) (at_ : Nat) : List UInt8 := (data.drop (at_ + 1)).take (numAt data at_)
def splitR (data : List UInt8) (at_ : Nat) (out : List (List UInt8)) : Option (List (List UInt8)) :=
  if at_ < data.length then
    if 120 < numAt data at_ ∨ 8 ≤ out.length ∨ data.length < at_ + 1 + numAt data at_ then none
    else splitR data (at_ + 1 + numAt data at_) (out ++ [blkAt data at_])
  else some out
termination_by data.length - at_
theorem splitR_end {data : List UInt8} {at_ : Nat} {out : List (List UInt8)} (h : ¬ at_ < data.length) : splitR data at_ out = some out := by rw [splitR, if_neg h]
theorem splitR_none {data : List UInt8} {at_ : Nat} {out : List (List UInt8)} (h : at_ < data.length) (h2 : 120 < numAt data at_ ∨ 8 ≤ out.length ∨ data.length < at_ + 1 + numAt data at_) : splitR data at_ out = none := by rw [splitR, if_pos h, if_pos h2]
theorem splitR_next {data : List UInt8} {at_ : Nat} {out : List (List UInt8)} (h : at_ < data.length) (h2 : ¬ (120 < numAt data at_ ∨ 8 ≤ out.length ∨ data.length < at_ + 1 + numAt data at_)) : splitR data at_ out = splitR data (at_ + 1 + numAt data at_) (out ++ [blkAt data at_]) := by
  conv => lhs; rw [splitR, if_pos h, if_neg h2]
def ubC (data : List UInt8) : Int := if data.length ≤ 160 then (if (splitR data 0 []).isSome then 0 else 5) else 2
def ubL (data : List UInt8) : List (List UInt8) := if data.length ≤ 160 then (splitR data 0 []).getD [] else []

theorem numAt_blk (pre rest b : List UInt8) (hb : b.length ≤ 120) : numAt (pre ++ (blkW b ++ rest)) pre.length = b.length := by
  unfold numAt blkW
  rw [List.getD_eq_getElem?_getD, List.getElem?_append_right (Nat.le_refl _), Nat.sub_self, List.cons_append]
  simp only [List.getElem?_cons_zero, Option.getD_some]
  have := mark8_nat (b.length : Int)
  omega
theorem blkAt_blk (pre rest b : List UInt8) (hb : b.length ≤ 120) : blkAt (pre ++ (blkW b ++ rest)) pre.length = b := by
  unfold blkAt
  rw [numAt_blk pre rest b hb, drop_past]
  unfold blkW
  rw [List.cons_append, List.drop_succ_cons, List.drop_zero]
  exact List.take_left' rfl
/-- Blocks are read back from their bytes. -/
theorem split_pack : ∀ (l : List (List UInt8)) (pre : List UInt8) (out : List (List UInt8)), (∀ b ∈ l, b.length ≤ 120) → out.length + l.length ≤ 8 → splitR (pre ++ blksN l) pre.length out = some (out ++ l)
  | [], pre, out, _, _ => by rw [splitR_end (by simp [blksN]), List.append_nil]
  | b :: l, pre, out, hf, hl => by
    have hb := hf b List.mem_cons_self
    have hlen : (pre ++ blksN (b :: l)).length = pre.length + (b.length + 1) + (blksN l).length := by rw [blksN_cons, List.length_append, List.length_append, blkW_len]; omega
    have e1 : numAt (pre ++ blksN (b :: l)) pre.length = b.length := by rw [blksN_cons]; exact numAt_blk pre _ b hb
    have e2 : blkAt (pre ++ blksN (b :: l)) pre.length = b := by rw [blksN_cons]; exact blkAt_blk pre _ b hb
    simp only [List.length_cons] at hl
    rw [splitR_next (by rw [hlen]; omega) (by rw [hlen, e1]; omega), e1, e2]
    have h := split_pack l (pre ++ blkW b) (out ++ [b]) (fun c hc => hf c (List.mem_cons_of_mem _ hc)) (by rw [List.length_append, List.length_singleton]; omega)
    rw [List.append_assoc, ← blksN_cons, List.length_append, blkW_len, show pre.length + (b.length + 1) = pre.length + 1 + b.length by omega, List.append_assoc] at h
    exact h
theorem blkW_at {data : List UInt8} {at_ : Nat} (h : at_ < data.length) (h3 : ¬ data.length < at_ + 1 + numAt data at_) : blkW (blkAt data at_) = (data.drop at_).take (1 + numAt data at_) := by
  have hb : (blkAt data at_).length = numAt data at_ := by unfold blkAt; rw [List.length_take, List.length_drop]; omega
  unfold blkW
  rw [hb]
  have e2 : mark8 ((numAt data at_ : Nat) : Int) = data[at_] := by
    unfold mark8 numAt
    have e : data.getD at_ 0 = data[at_] := by simp [h]
    rw [e]
    have := data[at_].toNat_lt
    rw [show (((data[at_].toNat : Nat) : Int) % 256).toNat = data[at_].toNat by omega, UInt8.ofNat_toNat]
  rw [e2]
  unfold blkAt
  have e3 : data.drop at_ = data[at_] :: data.drop (at_ + 1) := List.drop_eq_getElem_cons h
  rw [e3, Nat.add_comm 1, List.take_succ_cons]
/-- Bytes that are read as blocks are theirs. -/
theorem pack_split (data : List UInt8) : ∀ (m at_ : Nat) (out r : List (List UInt8)), data.length - at_ ≤ m → at_ ≤ data.length → blksN out = data.take at_ → out.length ≤ 8 → (∀ b ∈ out, b.length ≤ 120) → splitR data at_ out = some r → blksN r = data ∧ r.length ≤ 8 ∧ ∀ b ∈ r, b.length ≤ 120
  | 0, at_, out, r, hm, hle, ho, hl, hf, hr => by
    rw [splitR_end (by omega)] at hr
    cases hr
    exact ⟨by rw [ho]; exact List.take_of_length_le (by omega), hl, hf⟩
  | m + 1, at_, out, r, hm, hle, ho, hl, hf, hr => by
    by_cases h : at_ < data.length
    · by_cases h2 : 120 < numAt data at_ ∨ 8 ≤ out.length ∨ data.length < at_ + 1 + numAt data at_
      · rw [splitR_none h h2] at hr; cases hr
      · rw [splitR_next h h2] at hr
        refine pack_split data m _ _ r (by omega) (by omega) ?_ (by rw [List.length_append, List.length_singleton]; omega) (fun b hb => ?_) hr
        · rw [blksN_append, blksN_one, blkW_at h (by omega), ho, Nat.add_assoc]
          exact (List.take_add (i := at_) (j := 1 + numAt data at_) (l := data)).symm
        · rcases List.mem_append.1 hb with h4 | h4
          · exact hf b h4
          · rw [List.mem_singleton.1 h4]
            unfold blkAt
            rw [List.length_take]
            omega
    · rw [splitR_end h] at hr
      cases hr
      exact ⟨by rw [ho]; exact List.take_of_length_le (by omega), hl, hf⟩
end Go.Proofs.YtiabacnmmojfjabGreatDoor

