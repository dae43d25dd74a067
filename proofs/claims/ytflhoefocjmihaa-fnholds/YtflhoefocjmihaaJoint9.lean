/- The contract of the draws of chapter 2: spec.l2Draw, spec.DrawDigestOf: some bytes, at most 601. -/
import Derived.Test.YtflhoefocjmihaaJoint8
import Derived.Test.YtflhoefocjmihaaMac
import Derived.Test.YtflhoefocjmihaaArr
import Derived.Test.YtflhoefocjmihaaJoint6
import Derived.Test.YtflhoefocjmihaaJoint2
import Derived.Test.YtflhoefocjmihaaJoint5
import Derived.Deep.AppendLies
import Derived.BigRegion
import Derived.Test.YtflhoefocjmihaaTail
import Derived.Deep.RegionWith
namespace Go.Proofs.Ytflhoefocjmihaa
open Go.ChangeShapes Go.WideShapes Go.ChangeAt Go.RowKit


end Go.Proofs.Ytflhoefocjmihaa

/- The contracts of the draws of chapter 3: keys, data, labels, contexts, numbers: within bounds, no more. -/
namespace Go.Proofs.Ytflhoefocjmihaa
open Go.ChangeShapes Go.WideShapes Go.ChangeAt Go.RowKit



/-- A row that was drawn ahead of other draws. -/
theorem Own.draw {w w' : World} {B b : Nat} {v : Value} {bs : List UInt8} (h : Own w B v bs) (hg : w.grownBy w' (some b)) (hb : b < B) : Own w' B v bs :=
  h.other hg (fun k hk e => by have := h.ge k hk; simp at e; omega)




def labs : List (List UInt8) := [[100, 101, 114, 105, 118, 101, 100], [99, 32, 104, 115, 32, 116, 114, 97, 102, 102, 105, 99], [102, 105, 110, 105, 115, 104, 101, 100], [97], [], [120, 10], [97, 98, 99, 100, 101, 102, 103, 104, 105, 106, 107, 108, 109, 110, 111, 112, 113, 114, 115, 116, 117, 118, 119, 120, 121, 122, 97, 98, 99, 100, 101, 102, 103, 104, 105, 106, 107, 108, 109, 110, 111]]
def labsV : List Value := labs.map (fun l => .string (strB l))
theorem labsV_at {k : Nat} (h : k < 7) : ∃ l : List UInt8, labsV[k]? = some (.string (strB l)) ∧ l.length ≤ 41 := by
  have hl : k < labs.length := h
  refine ⟨labs[k], by simp [labsV, hl], ?_⟩
  have : ∀ x ∈ labs, x.length ≤ 41 := by unfold labs; decide
  exact this _ (List.getElem_mem hl)




end Go.Proofs.Ytflhoefocjmihaa

/- The contracts of MixRound and of what it calls besides a round, in the specification and in the program: both answer mixCode and mixList, at every argument. -/
namespace Go.Proofs.Ytflhoefocjmihaa
open Go.ChangeShapes Go.WideShapes Go.ChangeAt Go.RowKit

def isW (v : Int) : Bool := inB v 0 4294967295
def mixOk (l : List Int) (word key : Int) : Bool := l.all isW && isW word && isW key
def s8 (l : List Int) : S8 := ⟨(atI l 0).toNat, (atI l 1).toNat, (atI l 2).toNat, (atI l 3).toNat, (atI l 4).toNat, (atI l 5).toNat, (atI l 6).toNat, (atI l 7).toNat⟩
def mixCode (l : List Int) (word key : Int) : Int := if l.length = 8 then (if mixOk l word key then 0 else 3) else 1
def mixList (l : List Int) (word key : Int) : List Int := if l.length = 8 then (if mixOk l word key then (roundN (s8 l) word.toNat key.toNat).list.map Int.ofNat else []) else []
theorem mixList_len (l : List Int) (word key : Int) : (mixList l word key).length ≤ 8 := by
  unfold mixList; split
  · split <;> simp [S8.list]
  · simp
theorem isW_at {l : List Int} (h : l.all isW = true) (i : Nat) : 0 ≤ atI l i ∧ atI l i ≤ 4294967295 := by
  unfold atI
  rw [List.getD_eq_getElem?_getD]
  cases e : l[i]? with
  | none => simp
  | some x =>
    have h2 := (List.all_eq_true.1 h) x (List.mem_of_getElem? e)
    simpa [isW, inB] using h2
theorem all_of_at {l : List Int} (h : ∀ j, j < l.length → isW (atI l j) = true) : l.all isW = true := by
  rw [List.all_eq_true]
  intro x hx
  obtain ⟨i, hi, rfl⟩ := List.mem_iff_getElem.1 hx
  rw [← atI_get hi]; exact h i hi
theorem not_all_at {l : List Int} {j : Nat} (hj : j < l.length) (h : isW (atI l j) = false) : l.all isW = false := by
  rw [List.all_eq_false]
  exact ⟨l[j], List.getElem_mem hj, by rw [← atI_get hj, h]; simp⟩
theorem partI_arr (l : List Int) (k : Nat) (h : k < l.length) : (partI l l.length k).set k (.int .i64 (atI l k)) = partI l l.length (k + 1) := partI_set l k h

theorem i64_of_l {l : List Int} (h : l.length = 8) (ha : l.all isW = true) : (l.map i64z).toArray = (s8 l).i64 := by
  have e := fun i => Int.toNat_of_nonneg (isW_at ha i).1
  have e0 := e 0; have e1 := e 1; have e2 := e 2; have e3 := e 3; have e4 := e 4; have e5 := e 5; have e6 := e 6; have e7 := e 7
  unfold S8.i64 s8
  simp only [e0, e1, e2, e3, e4, e5, e6, e7]
  match l, h with
  | [a, b, c, d, e, f, g, q], _ => rfl
theorem s8_ok {l : List Int} (ha : l.all isW = true) : (s8 l).ok := by
  have e : ∀ i, (atI l i).toNat < 4294967296 := fun i => by have := isW_at ha i; omega
  exact ⟨e 0, e 1, e 2, e 3, e 4, e 5, e 6, e 7⟩
theorem isW_nat {v : Int} (h : isW v = true) : ∃ n : Nat, v = n ∧ n < 4294967296 := by
  simp [isW, inB] at h
  exact ⟨v.toNat, by omega, by omega⟩


def u32z (z : Int) : Value := .int .u32 z
theorem u32z_at {l : List Int} {i : Nat} (h : i < l.length) : (l.map u32z)[i]? = some (.int .u32 (atI l i)) := by simp [u32z, atI, h]
theorem u32_of_l {l : List Int} (h : l.length = 8) (ha : l.all isW = true) : (l.map u32z).toArray = (s8 l).u32 := by
  have e := fun i => Int.toNat_of_nonneg (isW_at ha i).1
  have e0 := e 0; have e1 := e 1; have e2 := e 2; have e3 := e 3; have e4 := e 4; have e5 := e 5; have e6 := e 6; have e7 := e 7
  unfold S8.u32 s8
  simp only [e0, e1, e2, e3, e4, e5, e6, e7]
  match l, h with
  | [a, b, c, d, e, f, g, q], _ => rfl



theorem allW_nat {ws : List Nat} (h : Words ws) : (ws.map Int.ofNat).all isW = true := by
  rw [List.all_eq_true]
  intro x hx
  obtain ⟨n, hn, rfl⟩ := List.mem_map.1 hx
  have := h n hn
  simp [isW, inB]
  omega
theorem S8.words {s : S8} (h : s.ok) : Words s.list := by
  intro x hx
  simp only [S8.list, List.mem_cons, List.not_mem_nil, or_false] at hx
  obtain ⟨h1, h2, h3, h4, h5, h6, h7, h8⟩ := h
  rcases hx with rfl | rfl | rfl | rfl | rfl | rfl | rfl | rfl <;> assumption

end Go.Proofs.Ytflhoefocjmihaa

/- The contracts of the words of a block: spec.l2Spread and impl.spread answer spreadN of 64 bytes. What was there stays. -/
namespace Go.Proofs.Ytflhoefocjmihaa
open Go.ChangeShapes Go.WideShapes Go.ChangeAt Go.RowKit

/-- Words, then zeros, 64 in all. -/
def fill64 (f : Nat → Value) (z : Value) (ws : List Nat) : List Value := ws.map f ++ List.replicate (64 - ws.length) z
theorem fill64_at (f : Nat → Value) (z : Value) {ws : List Nat} {i : Nat} (h : i < ws.length) : (fill64 f z ws)[i]? = some (f (ws.getD i 0)) := by
  unfold fill64
  rw [List.getElem?_append_left (by simpa using h)]
  simp [h]
theorem fill64_zero (f : Nat → Value) (z : Value) {ws : List Nat} {i : Nat} (h : ws.length ≤ i) (h2 : i < 64) : (fill64 f z ws)[i]? = some z := by
  unfold fill64
  rw [List.getElem?_append_right (by simpa using h), List.getElem?_replicate, if_pos (by simp; omega)]
theorem fill64_set (f : Nat → Value) (z : Value) (ws : List Nat) (x : Nat) (h : ws.length < 64) : (fill64 f z ws).set ws.length (f x) = fill64 f z (ws ++ [x]) := by
  unfold fill64
  rw [List.set_append_right _ _ (by simp), List.length_map, Nat.sub_self, show 64 - ws.length = (64 - (ws ++ [x]).length) + 1 by simp; omega, List.replicate_succ, List.set_cons_zero, List.map_append, List.append_assoc]
  rfl
theorem fill64_all (f : Nat → Value) (z : Value) {ws : List Nat} (h : ws.length = 64) : fill64 f z ws = ws.map f := by simp [fill64, h]
theorem fill64_len (f : Nat → Value) (z : Value) {ws : List Nat} (h : ws.length ≤ 64) : (fill64 f z ws).length = 64 := by simp [fill64]; omega

/-- The first words of a block, one more each round. -/
def firstK (bs : List UInt8) (k : Nat) : List Nat := (List.range k).map (word4 bs)
theorem firstK_len (bs : List UInt8) (k : Nat) : (firstK bs k).length = k := by simp [firstK]
theorem firstK_succ (bs : List UInt8) (k : Nat) : firstK bs (k + 1) = firstK bs k ++ [word4 bs k] := by simp [firstK, List.range_succ]
theorem firstK_all (bs : List UInt8) : firstK bs 16 = first16 bs := rfl

/-- The words that the program has gathered behind k bytes. -/
def accN (bs : List UInt8) (k j : Nat) : Nat := getB (((bs.take k).drop (4 * j)).take 4)
def accW (bs : List UInt8) (k : Nat) : List Value := (List.range 64).map (fun j => u32v (accN bs k j))
theorem accW_len (bs : List UInt8) (k : Nat) : (accW bs k).length = 64 := by simp [accW]
theorem accW_at (bs : List UInt8) (k : Nat) {j : Nat} (h : j < 64) : (accW bs k)[j]? = some (.int .u32 (accN bs k j : Nat)) := by simp [accW, u32v, h]
theorem accN_other (bs : List UInt8) (k j : Nat) (hk : k < bs.length) (h : j ≠ k / 4) : accN bs (k + 1) j = accN bs k j := by
  unfold accN
  congr 1
  by_cases h1 : k < 4 * j
  · rw [List.drop_eq_nil_of_le (by simp; omega), List.drop_eq_nil_of_le (by simp; omega)]
  · have h2 : 4 * j + 4 ≤ k := by omega
    rw [List.take_succ_eq_append_getElem hk, List.drop_append_of_le_length (by simp; omega), List.take_append_of_le_length (by simp; omega)]
theorem accN_same (bs : List UInt8) (k : Nat) (hk : k < bs.length) : ((accN bs (k + 1) (k / 4) : Nat) : Int) = (accN bs k (k / 4) : Int) * 256 + at8 bs k := by
  unfold accN
  have e1 : ((bs.take k).drop (4 * (k / 4)) ++ [bs[k]]).take 4 = (bs.take k).drop (4 * (k / 4)) ++ [bs[k]] := List.take_of_length_le (by simp; omega)
  have e2 : ((bs.take k).drop (4 * (k / 4))).take 4 = (bs.take k).drop (4 * (k / 4)) := List.take_of_length_le (by simp; omega)
  rw [List.take_succ_eq_append_getElem hk, List.drop_append_of_le_length (by simp; omega), e1, e2, getB_snoc, at8_get hk]
  omega
theorem accN_lt (bs : List UInt8) (k : Nat) : accN bs k (k / 4) < 16777216 := by
  unfold accN
  refine Nat.lt_of_lt_of_le (getB_lt _) (Nat.le_trans (Nat.pow_le_pow_right (by decide) (show _ ≤ 3 by simp; omega)) (by decide))
theorem accW_set (bs : List UInt8) (k : Nat) (hk : k < bs.length) : (accW bs k).set (k / 4) (.int .u32 ((accN bs k (k / 4) : Int) * 256 + at8 bs k)) = accW bs (k + 1) := by
  rw [← accN_same bs k hk]
  apply List.ext_getElem?
  intro i
  rw [List.getElem?_set]
  by_cases h : k / 4 = i
  · subst h
    by_cases h2 : k / 4 < 64
    · rw [accW_at bs (k + 1) h2]; simp [accW_len, h2]
    · simp [accW, h2]
  · rw [if_neg h]
    by_cases h2 : i < 64
    · rw [accW_at bs k h2, accW_at bs (k + 1) h2, accN_other bs k i hk (fun e => h e.symm)]
    · simp [accW, h2]
theorem accW_zero (bs : List UInt8) : accW bs 0 = zU := by
  apply List.ext_getElem?
  intro i
  by_cases h : i < 64
  · rw [accW_at bs 0 h, zU, List.getElem?_replicate, if_pos h]; simp [accN, getB]
  · rw [List.getElem?_eq_none (by rw [accW_len]; omega), List.getElem?_eq_none (by rw [zU_len]; omega)]
theorem accW_all (bs : List UInt8) (hl : bs.length = 64) : accW bs 64 = fill64 u32v (.int .u32 0) (first16 bs) := by
  apply List.ext_getElem?
  intro i
  by_cases h : i < 64
  · rw [accW_at bs 64 h]
    by_cases h2 : i < 16
    · rw [fill64_at _ _ (by rw [first16_len]; exact h2)]
      simp [u32v, accN, first16, word4, h2, List.take_of_length_le (Nat.le_of_eq hl)]
    · rw [fill64_zero _ _ (by rw [first16_len]; omega) h]
      have e : accN bs 64 i = 0 := by
        unfold accN
        rw [List.drop_eq_nil_of_le (by simp; omega)]; rfl
      rw [e]; rfl
  · rw [List.getElem?_eq_none (by rw [accW_len]; omega), List.getElem?_eq_none (by rw [fill64_len _ _ (by rw [first16_len]; omega)]; omega)]

end Go.Proofs.Ytflhoefocjmihaa

