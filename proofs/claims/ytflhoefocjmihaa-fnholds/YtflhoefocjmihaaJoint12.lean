/- The contracts of the macs in the specification: spec.l3Block, spec.l3Mac, spec.l3Extract, spec.l3Expand: blockK, macN, extractN, expandN, each in a row of its own. For keys of at most 64 bytes. What was there stays. -/
import Derived.Test.YtflhoefocjmihaaMac
import Derived.Test.YtflhoefocjmihaaJoint11
import Derived.Test.YtflhoefocjmihaaJoint2
namespace Go.Proofs.Ytflhoefocjmihaa
open Go.ChangeShapes Go.WideShapes Go.ChangeAt Go.RowKit

/-- What a loop that changes bytes from the first one on has laid behind j rounds. -/
def xorP (ks : List UInt8) (x : UInt8) (j : Nat) : List UInt8 := (ks.take j).map (· ^^^ x) ++ ks.drop j
theorem xorP_zero (ks : List UInt8) (x : UInt8) : xorP ks x 0 = ks := by simp [xorP]
theorem xorP_all (ks : List UInt8) (x : UInt8) : xorP ks x ks.length = ks.map (· ^^^ x) := by simp [xorP]
theorem xorP_at (ks : List UInt8) (x : UInt8) {j : Nat} (h : j < ks.length) : ((xorP ks x j).map u8v)[j]? = some (.int .u8 (at8 ks j)) := by
  unfold xorP
  rw [List.map_append, List.getElem?_append_right (by simp; omega)]
  simp [u8v, at8, h, show min j ks.length = j by omega]
theorem xorP_set (ks : List UInt8) (x : UInt8) {j : Nat} (h : j < ks.length) : ((xorP ks x j).map u8v).set j (u8v (ks.getD j 0 ^^^ x)) = (xorP ks x (j + 1)).map u8v := by
  have hl : (((ks.take j).map (· ^^^ x)).map u8v).length = j := by simp; omega
  have hg : ks.getD j 0 = ks[j] := by simp [h]
  unfold xorP
  rw [List.map_append, List.set_append_right _ _ (by omega), hl, Nat.sub_self, List.drop_eq_getElem_cons h, List.map_cons, List.set_cons_zero, List.take_succ_eq_append_getElem h, hg]
  simp only [List.map_append, List.map_cons, List.map_nil, List.append_assoc, List.cons_append, List.nil_append]
theorem u8_xor8 (a b : UInt8) : bits .xor .u8 (a.toNat : Int) (b.toNat : Int) = ((a ^^^ b).toNat : Int) := by
  rw [u8_xor_nat _ _ a.toNat_lt b.toNat_lt, UInt8.toNat_xor]
def keyZ (key : List UInt8) : List UInt8 := key ++ zs (64 - key.length)
theorem keyZ_len {key : List UInt8} (h : key.length ≤ 64) : (keyZ key).length = 64 := by simp [keyZ, zs_len]; omega
theorem blockK_eq (key : List UInt8) (x : UInt8) : blockK key x = (keyZ key).map (· ^^^ x) := rfl
theorem keyStart {w : World} {g : Nat} {t : TypeId} {key : List UInt8} (h : Hid (w.heap[g]? = some (.cells (splice ((zs 64).map u8v) 0 (key.map u8v)).toArray t (0, 0)))) : Arr w g t ((keyZ key).map u8v) := by
  have e : splice ((zs 64).map u8v) 0 (key.map u8v) = (keyZ key).map u8v := by
    simp only [splice, List.take_zero, List.nil_append, Nat.zero_add, List.length_map, keyZ, List.map_append, zs, ← List.map_drop, List.drop_replicate]
  unfold Arr
  rw [← e]
  exact h.out




/-- The beginning of a row of one's own. -/
theorem Own.cut {w : World} {B : Nat} {a : Option Addr} {m cap : Nat} {bs : List UInt8} (h : Own w B (.slice a m cap) bs) (k : Nat) (hk : k ≤ bs.length) : Own w B (.slice a k cap) (bs.take k) := by
  have hl : (bs.take k).length = k := by simp; omega
  obtain ⟨h1, h2⟩ := h
  unfold Own
  rw [hl]
  refine ⟨by simp; omega, ?_⟩
  rcases h2 with ⟨e, hn⟩ | ⟨g, c, cur, e, hB, hg, hle, hm, hs, ht⟩
  · simp at e
    obtain ⟨rfl, rfl, rfl⟩ := e
    have : k = 0 := by omega
    subst this
    exact .inl ⟨rfl, rfl⟩
  · simp at e
    obtain ⟨rfl, -, rfl⟩ := e
    refine .inr ⟨g, cap, cur, rfl, hB, hg, by omega, hm, hs, ?_⟩
    rw [Nat.mul_one] at ht ⊢
    rw [List.map_take, ← ht, List.take_take, Nat.min_eq_left hk]

end Go.Proofs.Ytflhoefocjmihaa

/- The contracts of labels in the specification: spec.l3Label, spec.l3LabelBytes, spec.l3LabelFault, spec.l3ExpandLabel, spec.l3Derive. What was there stays. -/
namespace Go.Proofs.Ytflhoefocjmihaa
open Go.ChangeShapes Go.WideShapes Go.ChangeAt Go.RowKit

def charOk (b : UInt8) : Bool := decide (32 ≤ b.toNat) && decide (b.toNat ≤ 126)
theorem labelOk_eq (l : List UInt8) : labelOk l = (l.all charOk && inB (l.length : Int) 1 40) := by
  unfold labelOk charOk inB
  rw [Bool.and_assoc]
  congr 1
  simp only [decide_eq_decide.2 (show 1 ≤ l.length ↔ (1 : Int) ≤ (l.length : Int) by omega), decide_eq_decide.2 (show l.length ≤ 40 ↔ (l.length : Int) ≤ 40 by omega), Bool.decide_and]
theorem charOk_at {l : List UInt8} {j : Nat} (h : j < l.length) : charOk l[j] = (decide (32 ≤ at8 l j) && decide (at8 l j ≤ 126)) := by
  rw [at8_get h]
  unfold charOk
  simp only [decide_eq_decide.2 (show 32 ≤ l[j].toNat ↔ (32 : Int) ≤ (l[j].toNat : Int) by omega), decide_eq_decide.2 (show l[j].toNat ≤ 126 ↔ (l[j].toNat : Int) ≤ 126 by omega)]
theorem all_take_succ {l : List UInt8} {j : Nat} (h : j < l.length) : (l.take (j + 1)).all charOk = ((l.take j).all charOk && charOk l[j]) := by
  rw [List.take_succ_eq_append_getElem h, List.all_append]
  simp
theorem all_of_take {l : List UInt8} {j : Nat} (h : j < l.length) (hb : charOk l[j] = false) : l.all charOk = false := by
  rw [List.all_eq_false]
  exact ⟨l[j], List.getElem_mem h, by simp [hb]⟩


/-- The code of a label, a context and a number. -/
def labelC (l ctx : List UInt8) (n : Int) : Int := if labelOk l then (if ctx.length ≤ 100 then (if inB n 0 255 then 0 else 3) else 2) else 5


theorem tls13_str : (⟨#[116, 108, 115, 49, 51, 32]⟩ : ByteArray) = strB tls13 := rfl
theorem labelB_eq (l ctx : List UInt8) (n : Nat) : labelB l ctx n = putB n 2 ++ [UInt8.ofNat (6 + l.length)] ++ (tls13 ++ l) ++ [UInt8.ofNat ctx.length] ++ ctx := by simp [labelB]


def expLabN (key l ctx : List UInt8) (n : Nat) : List UInt8 := expandN key (labelB l ctx n) n
def deriveN (key l data : List UInt8) : List UInt8 := expLabN key l (digestN data) 32
theorem labelOk_len {l : List UInt8} (h : labelOk l = true) : l.length ≤ 40 := by
  unfold labelOk at h
  simp only [Bool.and_eq_true, decide_eq_true_eq] at h
  exact h.2


end Go.Proofs.Ytflhoefocjmihaa

