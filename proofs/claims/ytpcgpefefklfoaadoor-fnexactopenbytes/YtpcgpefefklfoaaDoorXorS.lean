/- What hides, byte for byte, with the program's xor of two bytes; the contract of spec.l4Nonce (nonceN, in a row of its own). -/
import Derived.Test.YtpcgpefefklfoaaDoorStrS
import Derived.Test.YtpcgpefefklfoaaDoorJoint6
import Derived.Deep.RegionHeld3
import Derived.Deep.AppendLies
namespace Go.Proofs.YtpcgpefefklfoaaDoor
open Go.ChangeShapes Go.WideShapes Go.ChangeAt Go.RowKit

theorem u8_xorv (a b : UInt8) : bits .xor .u8 (a.toNat : Int) (b.toNat : Int) = ((a ^^^ b).toNat : Int) := by
  rw [u8_xor_nat _ _ a.toNat_lt b.toNat_lt, UInt8.toNat_xor]
theorem hide_succ (key nonce data : List UInt8) {j : Nat} (h : j < data.length) : (hideN key nonce data).take (j + 1) = (hideN key nonce data).take j ++ [data.getD j 0 ^^^ maskS key nonce j] := by
  have hl : j < (hideN key nonce data).length := by rw [hideN_len]; exact h
  rw [List.take_succ_eq_append_getElem hl]
  congr 2
  have := hideN_at key nonce data h
  rw [← this]
  simp [hl]


/-- What a loop that changes bytes from the first one on has laid behind j rounds. -/
def nonceP (base : List UInt8) (ps : List UInt8) (j : Nat) : List UInt8 := (List.range 12).map (fun i => if i < j then ps.getD i 0 ^^^ base.getD i 0 else ps.getD i 0)
theorem nonceP_len (base ps : List UInt8) (j : Nat) : (nonceP base ps j).length = 12 := by simp [nonceP]
theorem nonceP_zero (base ps : List UInt8) (h : ps.length = 12) : nonceP base ps 0 = ps := by
  apply List.ext_getElem?
  intro i
  by_cases hi : i < 12
  · simp [nonceP, hi, show i < ps.length by omega]
  · rw [List.getElem?_eq_none (by rw [nonceP_len]; omega), List.getElem?_eq_none (by omega)]
theorem nonceP_all (base : List UInt8) (seq : Nat) : nonceP base (putB seq 12) 12 = nonceN base seq := by
  unfold nonceP nonceN
  apply List.map_congr_left
  intro i hi
  rw [if_pos (List.mem_range.1 hi)]
theorem nonceP_at (base ps : List UInt8) {j : Nat} (h : j < 12) : ((nonceP base ps j).map u8v)[j]? = some (.int .u8 ((ps.getD j 0).toNat : Int)) := by
  simp [nonceP, u8v, h]
theorem nonceP_set (base ps : List UInt8) {j : Nat} (h : j < 12) : ((nonceP base ps j).map u8v).set j (.int .u8 ((ps.getD j 0 ^^^ base.getD j 0).toNat : Int)) = (nonceP base ps (j + 1)).map u8v := by
  apply List.ext_getElem?
  intro i
  rw [List.getElem?_set]
  by_cases e : j = i
  · subst e
    simp [nonceP, u8v, h]
  · rw [if_neg e]
    by_cases hi : i < 12
    · have e2 : (i < j) = (i < j + 1) := by simp; omega
      simp [nonceP, u8v, hi, e2]
    · rw [List.getElem?_eq_none (by rw [List.length_map, nonceP_len]; omega), List.getElem?_eq_none (by rw [List.length_map, nonceP_len]; omega)]

end Go.Proofs.YtpcgpefefklfoaaDoor

