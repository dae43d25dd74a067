/- The contracts of PadBytes and of SpreadBlock, in the specification and in the program: both answer padCode and padList, sprCode and sprList, at every argument. -/
import Derived.Test.YtbgiaoipdadanaaDoorPad
import Derived.Test.YtbgiaoipdadanaaDoorSpread
namespace Go.Proofs.YtbgiaoipdadanaaDoor
open Go.ChangeShapes Go.WideShapes Go.ChangeAt Go.RowKit

def padCode (bs : List UInt8) : Int := if bs.length ≤ 600 then 0 else 2
def padList (bs : List UInt8) : List UInt8 := if bs.length ≤ 600 then padN bs else []
theorem padList_len (bs : List UInt8) : (padList bs).length ≤ 1048576 := by
  unfold padList; split
  · rw [padN_len64]; omega
  · simp
def sprCode (bs : List UInt8) : Int := if bs.length = 64 then 0 else 1
def sprList (bs : List UInt8) : List Int := if bs.length = 64 then (spreadN bs).map Int.ofNat else []
theorem sprList_len (bs : List UInt8) : (sprList bs).length ≤ 1048576 := by
  unfold sprList; split
  · simp [spreadN_len]
  · simp


set_option maxHeartbeats 1000000 in
theorem implPad_c (p : Option Addr) (q : Nat) (bs : List UInt8) (w : World) (hr : Rd w p q bs) :
    Calls Tryd.prog 8 #[.slice p bs.length q] w fun e w' => ∃ u, e = .returned (.agg #[.int .i64 (padCode bs), u]) ∧ Own w' w.heap.size u (padList bs) ∧ Below w.heap.size w w' := by
  by_cases h : bs.length ≤ 600
  · rw [show padCode bs = 0 by simp [padCode, h], show padList bs = padN bs by simp [padList, h]]
    go_enter Tryd.func8, Tryd.ntmps8
    go_wp2_with fail
    refine (padded_c p q bs _ (hr.keep (alloc_below _ _)) h).mono ?_
    rintro e w1 ⟨u, rfl, ho, hb⟩
    obtain ⟨hc, hf⟩ := bcell hb
    rw [size_alloc] at hc hf ho
    obtain ⟨a, cap, rfl, -⟩ := ho.rd
    go_wp2
    have hres := Below.res hb
    refine bodyPost_ret (v := .agg #[.int .i64 0, .slice a (padN bs).length cap]) (by simp [results, Tryd.results8, go_sem, hc]) rfl ⟨_, rfl, ?_, (hres.setCell (Nat.le_refl _) _).setCell (Nat.le_refl _) _⟩
    exact ((ho.set (Nat.lt_succ_self _) _).set (Nat.lt_succ_self _) _).lower (Nat.le_succ _)
  · rw [show padCode bs = 2 by simp [padCode, h], show padList bs = [] by simp [padList, h]]
    go_enter Tryd.func8, Tryd.ntmps8
    go_wp2
    exact bodyPost_ret (v := .agg #[.int .i64 2, .slice none 0 0]) (by simp [results, Tryd.results8, go_sem]) rfl ⟨_, rfl, Own_nil _ _, alloc_below _ _⟩

theorem Rd.block {w : World} {p : Option Addr} {q : Nat} {bs : List UInt8} (h : Rd w p q bs) (hp : 0 < bs.length) : ∃ b o, p = some ⟨b, o, none⟩ := by
  obtain ⟨b, o, e, -⟩ := h.2.2.2 hp
  exact ⟨b, o, e⟩


set_option maxHeartbeats 1000000 in
theorem implSpr_c (p : Option Addr) (q : Nat) (bs : List UInt8) (w : World) (hr : Rd w p q bs) :
    Calls Tryd.prog 10 #[.slice p bs.length q] w fun e w' => ∃ u, e = .returned (.agg #[.int .i64 (sprCode bs), u]) ∧ OwnI w' w.heap.size u (sprList bs) ∧ Below w.heap.size w w' := by
  by_cases h : bs.length = 64
  · rw [show sprCode bs = 0 by simp [sprCode, h], show sprList bs = (spreadN bs).map Int.ofNat by simp [sprList, h]]
    obtain ⟨b, o, rfl⟩ := hr.block (by omega)
    have HL : Hid (bs.length = 64) := h
    rw [h]
    clear h
    have hzv : Hid (∀ w, (zeroValue 44).run Tryd.prog w = .ok (.agg zU.toArray) w) := (zero_of_info info_u64).1
    have hsz2 : Hid ((Tryd.prog.info? 44).map (·.size) = some ((spreadN bs).map u32v).toArray.size) := by show _ = _; rw [(zero_of_info info_u64).2]; simp [spreadN_len]
    go_enter Tryd.func10, Tryd.ntmps10
    go_wp2_with fail
    refine (spread_c b o q bs _ (hr.keep (alloc_below _ _)) HL.out).mono ?_
    rintro e w1 ⟨rfl, hb⟩
    have ho1 := (Arr.new w [.int .i64 0, .slice none 0 0] 31).stay hb
    have hB := Below.res hb
    have hA2 := (Arr.new w1 zU 44).row ((spreadN bs).map u32v)
    have ho2 := (ho1.old _ (Obj.cells zU.toArray 44)).rowOther (k := w1.heap.size) (by have := ho1.lt; omega) ((spreadN bs).map u32v).toArray
    have hB2 := Below.row (Below.mk hB (Obj.cells zU.toArray 44)) hB.size ((spreadN bs).map u32v).toArray
    have hmm : Hid ((spreadN bs).map u32v = ((spreadN bs).map Int.ofNat).map u32z) := by show _ = _; rw [List.map_map]; rfl
    clear ho1 hB hb
    go_wp2_with (first
      | refine wpList_alloc_arr rfl 44 rfl _ hzv.out w1.heap.size rfl ?_
      | refine wpList_store_row rfl 44 (.tmp 3) (.tmp 9) rfl w1.heap.size ((spreadN bs).map u32v).toArray rfl rfl 44 zU.toArray (heap_alloc_new _ _) hsz2.out (by simp [zU_len, spreadN_len]) (by simp [u32v]; intros; rfl) ?_)
    refine (numbersOf_n w1.heap.size 64 44 ((spreadN bs).map Int.ofNat) _ (by simp [spreadN_len]) (by rw [hmm.out] at hA2; rw [hmm.out]; exact hA2) (allW_nat (spreadN_ok bs)) (by decide)).mono ?_
    rintro e w2 ⟨u, rfl, hown, hb2⟩
    obtain ⟨p2, q2, rfl, -⟩ := hown.rd
    have m := ho2.stay hb2
    have d0 := m.cell 0
    have d1 := m.cell 1
    have e0 := m.frozen
    simp at d0 d1
    have RB := Below.step hB2 hb2
    have hge := ho2.lt
    clear ho2 hA2 hb2 hB2 hmm
    go_wp2
    refine bodyPost_ret (v := .agg #[.int .i64 0, .slice p2 ((spreadN bs).map Int.ofNat).length q2]) (by simp [results, Tryd.results10, go_sem, d0, d1]) rfl ⟨_, rfl, ?_, (RB.setCell (Nat.le_refl _) _).setCell (Nat.le_refl _) _⟩
    exact ((hown.set hge _).set hge _).lower (Nat.le_of_lt hge)
  · rw [show sprCode bs = 1 by simp [sprCode, h], show sprList bs = [] by simp [sprList, h]]
    have hne : (((bs.length : Nat) : Int) != 64) = true := by rw [bne_iff_ne]; omega
    go_enter Tryd.func10, Tryd.ntmps10
    go_wp2
    exact bodyPost_ret (v := .agg #[.int .i64 1, .slice none 0 0]) (by simp [results, Tryd.results10, go_sem]) rfl ⟨_, rfl, OwnI_nil _ _, alloc_below _ _⟩
end Go.Proofs.YtbgiaoipdadanaaDoor
