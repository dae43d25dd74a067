/- What hides, byte for byte, with the program's xor of two bytes; the contract of spec.l4Nonce (nonceN, in a row of its own). -/
import Derived.Test.YtdemfbbjdnjolaaDoorStrS
import Derived.Test.YtdemfbbjdnjolaaDoorJoint7
import Derived.Deep.RegionHeld3
import Derived.Deep.AppendLies
namespace Go.Proofs.YtdemfbbjdnjolaaDoor
open Go.ChangeShapes Go.WideShapes Go.ChangeAt Go.RowKit

theorem u8_xorv (a b : UInt8) : bits .xor .u8 (a.toNat : Int) (b.toNat : Int) = ((a ^^^ b).toNat : Int) := by
  rw [u8_xor_nat _ _ a.toNat_lt b.toNat_lt, UInt8.toNat_xor]
theorem hide_succ (key nonce data : List UInt8) {j : Nat} (h : j < data.length) : (hideN key nonce data).take (j + 1) = (hideN key nonce data).take j ++ [data.getD j 0 ^^^ maskS key nonce j] := by
  have hl : j < (hideN key nonce data).length := by rw [hideN_len]; exact h
  rw [List.take_succ_eq_append_getElem hl]
  congr 2
  have := hideN_at key nonce data h
  rw [← this]
  simp [hl]


/-- What a loop that changes bytes from the first one on has laid behind j rounds. -/
def nonceP (base : List UInt8) (ps : List UInt8) (j : Nat) : List UInt8 := (List.range 12).map (fun i => if i < j then ps.getD i 0 ^^^ base.getD i 0 else ps.getD i 0)
theorem nonceP_len (base ps : List UInt8) (j : Nat) : (nonceP base ps j).length = 12 := by simp [nonceP]
theorem nonceP_zero (base ps : List UInt8) (h : ps.length = 12) : nonceP base ps 0 = ps := by
  apply List.ext_getElem?
  intro i
  by_cases hi : i < 12
  · simp [nonceP, hi, show i < ps.length by omega]
  · rw [List.getElem?_eq_none (by rw [nonceP_len]; omega), List.getElem?_eq_none (by omega)]
theorem nonceP_all (base : List UInt8) (seq : Nat) : nonceP base (putB seq 12) 12 = nonceN base seq := by
  unfold nonceP nonceN
  apply List.map_congr_left
  intro i hi
  rw [if_pos (List.mem_range.1 hi)]
theorem nonceP_at (base ps : List UInt8) {j : Nat} (h : j < 12) : ((nonceP base ps j).map u8v)[j]? = some (.int .u8 ((ps.getD j 0).toNat : Int)) := by
  simp [nonceP, u8v, h]
theorem nonceP_set (base ps : List UInt8) {j : Nat} (h : j < 12) : ((nonceP base ps j).map u8v).set j (.int .u8 ((ps.getD j 0 ^^^ base.getD j 0).toNat : Int)) = (nonceP base ps (j + 1)).map u8v := by
  apply List.ext_getElem?
  intro i
  rw [List.getElem?_set]
  by_cases e : j = i
  · subst e
    simp [nonceP, u8v, h]
  · rw [if_neg e]
    by_cases hi : i < 12
    · have e2 : (i < j) = (i < j + 1) := by simp; omega
      simp [nonceP, u8v, hi, e2]
    · rw [List.getElem?_eq_none (by rw [List.length_map, nonceP_len]; omega), List.getElem?_eq_none (by rw [List.length_map, nonceP_len]; omega)]

set_option maxRecDepth 4000 in
set_option maxHeartbeats 1000000 in
theorem l4Nonce_c (p : Option Addr) (q : Nat) (base : List UInt8) (seq : Nat) (w : World) (hr : Rd w p q base) (hb : base.length = 12) (hs : seq ≤ 2147483648) :
    Calls Tryd.prog 53 #[.slice p 12 q, .int .i64 (seq : Int)] w fun e w' => ∃ u, e = .returned u ∧ Own w' w.heap.size u (nonceN base seq) ∧ Below w.heap.size w w' := by
  obtain ⟨b1, o1, rfl, hc1⟩ := hr.2.2.2 (by omega)
  have HR : Hid (Rd w (some ⟨b1, o1, none⟩) q base) := hr
  have HB : Hid (base.length = 12) := hb
  have hq : 12 ≤ q := by have := hr.1; omega
  clear hr hb hc1
  go_enter Tryd.func53, Tryd.ntmps53
  go_wp2_with fail
  refine (l1Put_i _ 12 _ (by omega) (by omega) (by decide) (by decide)).mono ?_
  rintro e w1 ⟨u1, rfl, k1, BW⟩
  rw [Int.toNat_natCast, show (12 : Int).toNat = 12 from rfl] at k1
  have HP : Hid ((putB seq 12).length = 12) := putB_len seq 12
  have HE : Known (nonceP base (putB seq 12) 12) (nonceN base seq) := ⟨nonceP_all base seq⟩
  rw [← nonceP_zero base (putB seq 12) HP.out] at k1
  generalize putB seq 12 = ps at *
  obtain ⟨p1, q1, rfl, -⟩ := k1.rd
  obtain ⟨g, rfl⟩ : ∃ g, p1 = some ⟨g, 0, none⟩ := by
    obtain ⟨-, h2⟩ := id k1
    rcases h2 with ⟨e2, h3⟩ | ⟨g, c, cur, e2, -⟩
    · rw [nonceP_len] at h3; omega
    · simp at e2; exact ⟨g, e2.1⟩
  rw [nonceP_len] at k1 ⊢
  have hgw : Hid (w.heap.size ≤ g) := k1.ge g rfl
  go_wp2_with fail
  go_loopw [6] (fun i wr => ∃ j : Nat, j ≤ 12 ∧ i = .int .i64 j ∧ Own wr w.heap.size (.slice (some ⟨g, 0, none⟩) 12 q1) (nonceP base ps j) ∧ Below w.heap.size w wr)
    (fun i _ => 12 - (intOf i).toNat)
  case atStart => exact ⟨0, Nat.zero_le _, rfl, k1, BW⟩
  case round =>
    clear k1 BW
    obtain ⟨j, hj, rfl, ho, BW⟩ := hrel
    by_cases hjl : j < 12
    · have hjI : (j : Int) < 12 := by omega
      have hoR : wr.ownsRow w.heap.size 5 1 (.slice (some ⟨g, 0, none⟩) 12 q1) 12 ((nonceP base ps j).map u8v) := by have h := ho; unfold Own at h; rw [nonceP_len] at h; exact h
      have cx : wr.cell? ⟨g, j, none⟩ = some (.int .u8 ((ps.getD j 0).toNat : Int)) := by rw [World.ownsRow.cellAt hoR j (by omega)]; exact nonceP_at base ps hjl
      have fx := World.ownsRow.frozenAt hoR j
      obtain ⟨b', o', ea, hc⟩ := (HR.out.keep BW).2.2.2 (by rw [HB.out]; decide)
      simp at ea
      obtain ⟨rfl, rfl⟩ := ea
      have cy := hc j (by rw [HB.out]; exact hjl)
      have hmy : Hid (at8 base j = ((base.getD j 0).toNat : Int)) := rfl
      rw [hmy.out] at cy
      have hxo := u8_xorv (ps.getD j 0) (base.getD j 0)
      have R := World.ownsRow.stored hoR j (.int .u8 ((ps.getD j 0 ^^^ base.getD j 0).toNat : Int))
      rw [nonceP_set base ps hjl] at R
      have RB := fun v => Below.setCell (p := ⟨g, j, none⟩) BW hgw.out v
      generalize ps.getD j 0 = x at *
      generalize base.getD j 0 = y at *
      rw [UInt8.toNat_xor] at R
      clear hc hoR ho BW hmy
      go_wp2
      go_region
      go_wp2
      go_roundw
      case rel => exact ⟨j + 1, by omega, by go_num, by unfold Own; rw [nonceP_len]; exact R.1, Below.drew (RB _)⟩
      case measure => simp [intOf]; omega
    · have e : j = 12 := by omega
      subst e
      rw [HE.eq] at ho
      go_wp2_with fail
      go_ret
      exact ⟨_, rfl, ho, BW⟩
end Go.Proofs.YtdemfbbjdnjolaaDoor

