/- The contracts of the macs in the specification: spec.l3Block, spec.l3Mac, spec.l3Extract, spec.l3Expand: blockK, macN, extractN, expandN, each in a row of its own. For keys of at most 64 bytes. What was there stays. -/
import Derived.Test.YthfjnmkplifcmabMac
import Derived.Test.YthfjnmkplifcmabDigS
import Derived.Test.YthfjnmkplifcmabSrc
namespace Go.Proofs.Ythfjnmkplifcmab
open Go.ChangeShapes Go.WideShapes Go.ChangeAt Go.RowKit

/-- What a loop that changes bytes from the first one on has laid behind j rounds. -/
def xorP (ks : List UInt8) (x : UInt8) (j : Nat) : List UInt8 := (ks.take j).map (· ^^^ x) ++ ks.drop j
theorem xorP_zero (ks : List UInt8) (x : UInt8) : xorP ks x 0 = ks := by simp [xorP]
theorem xorP_all (ks : List UInt8) (x : UInt8) : xorP ks x ks.length = ks.map (· ^^^ x) := by simp [xorP]
theorem xorP_at (ks : List UInt8) (x : UInt8) {j : Nat} (h : j < ks.length) : ((xorP ks x j).map u8v)[j]? = some (.int .u8 (at8 ks j)) := by
  unfold xorP
  rw [List.map_append, List.getElem?_append_right (by simp; omega)]
  simp [u8v, at8, h, show min j ks.length = j by omega]
theorem xorP_set (ks : List UInt8) (x : UInt8) {j : Nat} (h : j < ks.length) : ((xorP ks x j).map u8v).set j (u8v (ks.getD j 0 ^^^ x)) = (xorP ks x (j + 1)).map u8v := by
  have hl : (((ks.take j).map (· ^^^ x)).map u8v).length = j := by simp; omega
  have hg : ks.getD j 0 = ks[j] := by simp [h]
  unfold xorP
  rw [List.map_append, List.set_append_right _ _ (by omega), hl, Nat.sub_self, List.drop_eq_getElem_cons h, List.map_cons, List.set_cons_zero, List.take_succ_eq_append_getElem h, hg]
  simp only [List.map_append, List.map_cons, List.map_nil, List.append_assoc, List.cons_append, List.nil_append]
theorem u8_xor8 (a b : UInt8) : bits .xor .u8 (a.toNat : Int) (b.toNat : Int) = ((a ^^^ b).toNat : Int) := by
  rw [u8_xor_nat _ _ a.toNat_lt b.toNat_lt, UInt8.toNat_xor]
def keyZ (key : List UInt8) : List UInt8 := key ++ zs (64 - key.length)
theorem keyZ_len {key : List UInt8} (h : key.length ≤ 64) : (keyZ key).length = 64 := by simp [keyZ, zs_len]; omega
theorem blockK_eq (key : List UInt8) (x : UInt8) : blockK key x = (keyZ key).map (· ^^^ x) := rfl
theorem keyStart {w : World} {g : Nat} {t : TypeId} {key : List UInt8} (h : Hid (w.heap[g]? = some (.cells (splice ((zs 64).map u8v) 0 (key.map u8v)).toArray t (0, 0)))) : Arr w g t ((keyZ key).map u8v) := by
  have e : splice ((zs 64).map u8v) 0 (key.map u8v) = (keyZ key).map u8v := by
    simp only [splice, List.take_zero, List.nil_append, Nat.zero_add, List.length_map, keyZ, List.map_append, zs, ← List.map_drop, List.drop_replicate]
  unfold Arr
  rw [← e]
  exact h.out




/-- The beginning of a row of one's own. -/
theorem Own.cut {w : World} {B : Nat} {a : Option Addr} {m cap : Nat} {bs : List UInt8} (h : Own w B (.slice a m cap) bs) (k : Nat) (hk : k ≤ bs.length) : Own w B (.slice a k cap) (bs.take k) := by
  have hl : (bs.take k).length = k := by simp; omega
  obtain ⟨h1, h2⟩ := h
  unfold Own
  rw [hl]
  refine ⟨by simp; omega, ?_⟩
  rcases h2 with ⟨e, hn⟩ | ⟨g, c, cur, e, hB, hg, hle, hm, hs, ht⟩
  · simp at e
    obtain ⟨rfl, rfl, rfl⟩ := e
    have : k = 0 := by omega
    subst this
    exact .inl ⟨rfl, rfl⟩
  · simp at e
    obtain ⟨rfl, -, rfl⟩ := e
    refine .inr ⟨g, cap, cur, rfl, hB, hg, by omega, hm, hs, ?_⟩
    rw [Nat.mul_one] at ht ⊢
    rw [List.map_take, ← ht, List.take_take, Nat.min_eq_left hk]

end Go.Proofs.Ythfjnmkplifcmab

