/- Digits and bytes, there and back, with no program in it. -/
import Derived.Test.YtgdbbadmfddfbaaUnhex
namespace Go.Proofs.Ytgdbbadmfddfbaa
open Go.RowKit

theorem hexD_dv (c : UInt8) (h : 0 ≤ dv (c.toNat : Int)) : hexD (dv (c.toNat : Int)) = c := by
  have key : ∀ n : Fin 256, 0 ≤ dv (n.val : Int) → hexD (dv (n.val : Int)) = UInt8.ofNat n.val := by decide +kernel
  have := key ⟨c.toNat, c.toNat_lt⟩ h
  simpa using this
theorem dv_hexD (q : Int) (h0 : 0 ≤ q) (h1 : q < 16) : dv ((hexD q).toNat : Int) = q := by
  rcases (show q = 0 ∨ q = 1 ∨ q = 2 ∨ q = 3 ∨ q = 4 ∨ q = 5 ∨ q = 6 ∨ q = 7 ∨ q = 8 ∨ q = 9 ∨ q = 10 ∨ q = 11 ∨ q = 12 ∨ q = 13 ∨ q = 14 ∨ q = 15 by omega) with rfl | rfl | rfl | rfl | rfl | rfl | rfl | rfl | rfl | rfl | rfl | rfl | rfl | rfl | rfl | rfl
  all_goals decide

theorem hexL_append (a b : List UInt8) : hexL (a ++ b) = hexL a ++ hexL b := by simp [hexL]
theorem hexL_one (b : UInt8) : hexL [b] = [hexD (b.toNat / 16), hexD (b.toNat % 16)] := by simp [hexL]

/-- Digits that are read are those of the bytes. -/
theorem hexL_outTo (l : List UInt8) : ∀ k, 2 * k ≤ l.length → allOk l k = true → hexL (outTo l k) = l.take (2 * k)
  | 0, _, _ => by simp [outTo, hexL]
  | k + 1, hk, ha => by
    rw [allOk_succ, Bool.and_eq_true] at ha
    obtain ⟨ha, ho⟩ := ha
    have hv := byteAt_val ho
    have hd := of_decide_eq_true ho
    have h1 := dv_hi (at8 l (2 * k))
    have h2 := dv_hi (at8 l (2 * k + 1))
    have i1 : 2 * k < l.length := by omega
    have i2 : 2 * k + 1 < l.length := by omega
    rw [outTo_succ, hexL_append, hexL_outTo l k (by omega) ha, hexL_one, hv]
    have e1 : (16 * dv (at8 l (2 * k)) + dv (at8 l (2 * k + 1))) / 16 = dv (at8 l (2 * k)) := by omega
    have e2 : (16 * dv (at8 l (2 * k)) + dv (at8 l (2 * k + 1))) % 16 = dv (at8 l (2 * k + 1)) := by omega
    rw [e1, e2]
    have a1 := at8_get i1
    have a2 := at8_get i2
    rw [a1] at hd ⊢
    rw [a2] at hd ⊢
    rw [hexD_dv _ hd.1, hexD_dv _ hd.2, show 2 * (k + 1) = 2 * k + 1 + 1 by omega, List.take_succ_eq_append_getElem i2, List.take_succ_eq_append_getElem i1, List.append_assoc]
    rfl

theorem hex_boh {l : List UInt8} (h : bohOk l = true) : hexL (bohBytes l) = l := by
  have h' := h
  simp only [bohOk, Bool.and_eq_true, decide_eq_true_eq] at h'
  obtain ⟨⟨h1, h2⟩, h3⟩ := h'
  simp only [bohBytes, h, if_true]
  rw [hexL_outTo l _ (by omega) h3, List.take_of_length_le (by omega)]

theorem hexL_at (bs : List UInt8) (j : Nat) (hj : j < bs.length) : at8 (hexL bs) (2 * j) = ((hexD (at8 bs j / 16)).toNat : Int) ∧ at8 (hexL bs) (2 * j + 1) = ((hexD (at8 bs j % 16)).toNat : Int) := by
  have e : bs = bs.take j ++ [bs[j]] ++ bs.drop (j + 1) := by simp
  have hh : hexL bs = hexL (bs.take j) ++ [hexD (at8 bs j / 16), hexD (at8 bs j % 16)] ++ hexL (bs.drop (j + 1)) := by
    conv => lhs; rw [e]
    rw [hexL_append, hexL_append, hexL_one, at8_get hj]
  have hl : (hexL (bs.take j)).length = 2 * j := by rw [hexL_len]; simp; omega
  unfold at8 at hh ⊢
  rw [hh]
  constructor
  · simp only [List.getD_eq_getElem?_getD]
    rw [List.getElem?_append_left (by simp [hl]), List.getElem?_append_right (by omega), hl, Nat.sub_self]
    rfl
  · simp only [List.getD_eq_getElem?_getD]
    rw [List.getElem?_append_left (by simp [hl]), List.getElem?_append_right (by omega), hl, show 2 * j + 1 - 2 * j = 1 by omega]
    rfl

theorem byteAt_hexL (bs : List UInt8) (j : Nat) (hj : j < bs.length) : byteAt (hexL bs) j = bs[j] ∧ okB (hexL bs) j = true := by
  obtain ⟨e1, e2⟩ := hexL_at bs j hj
  have h0 := at8_lo bs j
  have h1 := at8_hi bs j
  have d1 := dv_hexD (at8 bs j / 16) (by omega) (by omega)
  have d2 := dv_hexD (at8 bs j % 16) (by omega) (by omega)
  refine ⟨?_, ?_⟩
  · unfold byteAt
    rw [e1, e2, d1, d2, show 16 * (at8 bs j / 16) + at8 bs j % 16 = at8 bs j by omega, at8_get hj]
    simp
  · unfold okB
    rw [e1, e2, d1, d2]
    exact decide_eq_true ⟨by omega, by omega⟩

theorem boh_hex {bs : List UInt8} (h : bs.length ≤ 600) : bohOk (hexL bs) = true ∧ bohBytes (hexL bs) = bs := by
  have hl := hexL_len bs
  have ha : allOk (hexL bs) bs.length = true := by
    simp only [allOk, List.all_eq_true, List.mem_range]
    exact fun j hj => (byteAt_hexL bs j hj).2
  obtain ⟨h1, h2⟩ := bohOk_all (l := hexL bs) (k := bs.length) (by omega) (by omega) ha
  refine ⟨h1, h2.trans ?_⟩
  apply List.ext_getElem
  · rw [outTo_len]
  · intro i hi1 hi2
    simp only [outTo, List.getElem_map, List.getElem_range]
    exact (byteAt_hexL bs i hi2).1

end Go.Proofs.Ytgdbbadmfddfbaa
