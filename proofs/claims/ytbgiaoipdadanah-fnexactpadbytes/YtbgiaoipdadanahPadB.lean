/- The contracts of PadBytes and of SpreadBlock, in the specification and in the program: both answer padCode and padList, sprCode and sprList, at every argument. -/
import Derived.Test.YtbgiaoipdadanahPad
import Derived.Test.YtbgiaoipdadanahSpread
namespace Go.Proofs.Ytbgiaoipdadanah
open Go.ChangeShapes Go.WideShapes Go.ChangeAt Go.RowKit

def padCode (bs : List UInt8) : Int := if bs.length ≤ 600 then 0 else 2
def padList (bs : List UInt8) : List UInt8 := if bs.length ≤ 600 then padN bs else []
theorem padList_len (bs : List UInt8) : (padList bs).length ≤ 1048576 := by
  unfold padList; split
  · rw [padN_len64]; omega
  · simp
def sprCode (bs : List UInt8) : Int := if bs.length = 64 then 0 else 1
def sprList (bs : List UInt8) : List Int := if bs.length = 64 then (spreadN bs).map Int.ofNat else []
theorem sprList_len (bs : List UInt8) : (sprList bs).length ≤ 1048576 := by
  unfold sprList; split
  · simp [spreadN_len]
  · simp

set_option maxHeartbeats 1000000 in
theorem specPad_c (p : Option Addr) (q : Nat) (bs : List UInt8) (w : World) (hr : Rd w p q bs) :
    Calls Try.prog 19 #[.slice p bs.length q] w fun e w' => ∃ u, e = .returned (.agg #[.int .i64 (padCode bs), u]) ∧ Own w' w.heap.size u (padList bs) ∧ Below w.heap.size w w' := by
  by_cases h : bs.length ≤ 600
  · rw [show padCode bs = 0 by simp [padCode, h], show padList bs = padN bs by simp [padList, h]]
    go_enter Try.func19, Try.ntmps19
    go_wp2_with fail
    refine (l2Pad_c p q bs _ (hr.keep (alloc_below _ _)) h).mono ?_
    rintro e w1 ⟨u, rfl, ho, hb⟩
    obtain ⟨hc, hf⟩ := bcell hb
    rw [size_alloc] at hc hf ho
    obtain ⟨a, cap, rfl, -⟩ := ho.rd
    go_wp2
    have hres := Below.res hb
    refine bodyPost_ret (v := .agg #[.int .i64 0, .slice a (padN bs).length cap]) (by simp [results, Try.results19, go_sem, hc]) rfl ⟨_, rfl, ?_, (hres.setCell (Nat.le_refl _) _).setCell (Nat.le_refl _) _⟩
    exact ((ho.set (Nat.lt_succ_self _) _).set (Nat.lt_succ_self _) _).lower (Nat.le_succ _)
  · rw [show padCode bs = 2 by simp [padCode, h], show padList bs = [] by simp [padList, h]]
    go_enter Try.func19, Try.ntmps19
    go_wp2
    exact bodyPost_ret (v := .agg #[.int .i64 2, .slice none 0 0]) (by simp [results, Try.results19, go_sem]) rfl ⟨_, rfl, Own_nil _ _, alloc_below _ _⟩

set_option maxHeartbeats 1000000 in
theorem implPad_c (p : Option Addr) (q : Nat) (bs : List UInt8) (w : World) (hr : Rd w p q bs) :
    Calls Try.prog 20 #[.slice p bs.length q] w fun e w' => ∃ u, e = .returned (.agg #[.int .i64 (padCode bs), u]) ∧ Own w' w.heap.size u (padList bs) ∧ Below w.heap.size w w' := by
  by_cases h : bs.length ≤ 600
  · rw [show padCode bs = 0 by simp [padCode, h], show padList bs = padN bs by simp [padList, h]]
    go_enter Try.func20, Try.ntmps20
    go_wp2_with fail
    refine (padded_c p q bs _ (hr.keep (alloc_below _ _)) h).mono ?_
    rintro e w1 ⟨u, rfl, ho, hb⟩
    obtain ⟨hc, hf⟩ := bcell hb
    rw [size_alloc] at hc hf ho
    obtain ⟨a, cap, rfl, -⟩ := ho.rd
    go_wp2
    have hres := Below.res hb
    refine bodyPost_ret (v := .agg #[.int .i64 0, .slice a (padN bs).length cap]) (by simp [results, Try.results20, go_sem, hc]) rfl ⟨_, rfl, ?_, (hres.setCell (Nat.le_refl _) _).setCell (Nat.le_refl _) _⟩
    exact ((ho.set (Nat.lt_succ_self _) _).set (Nat.lt_succ_self _) _).lower (Nat.le_succ _)
  · rw [show padCode bs = 2 by simp [padCode, h], show padList bs = [] by simp [padList, h]]
    go_enter Try.func20, Try.ntmps20
    go_wp2
    exact bodyPost_ret (v := .agg #[.int .i64 2, .slice none 0 0]) (by simp [results, Try.results20, go_sem]) rfl ⟨_, rfl, Own_nil _ _, alloc_below _ _⟩

theorem Rd.block {w : World} {p : Option Addr} {q : Nat} {bs : List UInt8} (h : Rd w p q bs) (hp : 0 < bs.length) : ∃ b o, p = some ⟨b, o, none⟩ := by
  obtain ⟨b, o, e, -⟩ := h.2.2.2 hp
  exact ⟨b, o, e⟩

set_option maxHeartbeats 1000000 in
theorem specSpr_c (p : Option Addr) (q : Nat) (bs : List UInt8) (w : World) (hr : Rd w p q bs) :
    Calls Try.prog 14 #[.slice p bs.length q] w fun e w' => ∃ u, e = .returned (.agg #[.int .i64 (sprCode bs), u]) ∧ OwnI w' w.heap.size u (sprList bs) ∧ Below w.heap.size w w' := by
  obtain ⟨i0, hi, hz0, hz1, hz2⟩ := info_parts info64
  by_cases h : bs.length = 64
  · rw [show sprCode bs = 0 by simp [sprCode, h], show sprList bs = (spreadN bs).map Int.ofNat by simp [sprList, h]]
    obtain ⟨b, o, rfl⟩ := hr.block (by omega)
    have HL : Hid (bs.length = 64) := h
    rw [h]
    clear h
    have hzv : Hid (∀ w, (zeroValue 53).run Try.prog w = .ok (.agg zI.toArray) w) := (zero_of_info info_w64).1
    have hsz2 : Hid ((Try.prog.info? 53).map (·.size) = some ((spreadN bs).map i64v).toArray.size) := by show _ = _; rw [(zero_of_info info_w64).2]; simp [spreadN_len]
    go_enter Try.func14, Try.ntmps14
    go_wp2_with fail
    refine (l2Spread_c b o q bs _ (hr.keep (alloc_below _ _)) HL.out).mono ?_
    rintro e w1 ⟨rfl, hb⟩
    have ho1 := (Arr.new w [.int .i64 0, .slice none 0 0] 24).stay hb
    have hB := Below.res hb
    have hA1 := Arr.new w1 zI 53
    have hA2 := (hA1.row ((spreadN bs).map i64v)).old _ (Obj.cells #[] 2)
    have ho2 := ((ho1.old _ (Obj.cells zI.toArray 53)).rowOther (k := w1.heap.size) (by have := ho1.lt; omega) ((spreadN bs).map i64v).toArray).old _ (Obj.cells #[] 2)
    have hB2 := Below.mk (Below.row (Below.mk hB (Obj.cells zI.toArray 53)) hB.size ((spreadN bs).map i64v).toArray) (Obj.cells #[] 2)
    have hn1 : Hid (w.heap.size < w1.heap.size) := ho1.lt
    have hown0 : (((w1.alloc (.cells zI.toArray 53)).setRow w1.heap.size ((spreadN bs).map i64v).toArray).alloc (.cells #[] 2)).ownsRow (w.heap.size + 1) 2 1 (.slice (some ⟨w1.heap.size + 1, 0, none⟩) 0 0) 0 [] := by
      have h := World.ownsRow_lit (base := w.heap.size + 1) (e := 2) (size := 1) ((w1.alloc (.cells zI.toArray 53)).setRow w1.heap.size ((spreadN bs).map i64v).toArray) #[] 0 (by rw [size_setRow, size_alloc]; have := hn1.out; omega) (by unfold maxLen; decide) (by simp)
      rw [size_setRow, size_alloc] at h
      exact h
    clear ho1 hB hA1 hb
    go_wp2_with (first
      | refine wpList_alloc_arr rfl 53 rfl _ hzv.out w1.heap.size rfl ?_
      | refine wpList_store_row rfl 53 (.tmp 3) (.tmp 9) rfl w1.heap.size ((spreadN bs).map i64v).toArray rfl rfl 53 zI.toArray (heap_alloc_new _ _) hsz2.out (by simp [zI_len, spreadN_len]) (by simp [i64v]; intros; rfl) ?_
      | (at_builtin; refine wpList_append_lies _ rfl (.tmp 10) (.tmp 11) 22 rfl (w.heap.size + 1) 2 i0 (.int .i64 0) 1 8 Try.underlying22 hi hz0 hz1 hz2 rfl (by decide) (.slice (some ⟨w1.heap.size + 1, 0, none⟩) 0 0) 0 [] rfl hown0 ⟨w1.heap.size, 0, none⟩ 64 64 ((spreadN bs).map i64v) rfl (by simp [spreadN_len]) hA2.cells (by intro u hu; obtain ⟨n, -, rfl⟩ := List.mem_map.1 hu; rfl) (by decide) (by unfold maxLen; decide) (by decide) (by have := hn1.out; simp; omega) (w1.heap.size + 2) (by simp) ?_; intro g cap2 w4 hown4 hgrow4 hat4 hlt4; have m := ho2.other hgrow4 (by have := hn1.out; simp [Value.ownBlock]; omega); have d0 := m.cell 0; have d1 := m.cell 1; have e0 := m.frozen; simp at d0 d1; clear hown0 hA2 hat4 ho2)
      | go_in)
    have RB := hB2.grown hgrow4 hB2.size (fun k hk => by have := hn1.out; simp [Value.ownBlock] at hk; omega)
    refine bodyPost_ret (v := .agg #[.int .i64 0, .slice (some ⟨g, 0, none⟩) 64 cap2]) (by simp [results, Try.results14, go_sem, d0, d1]) rfl ⟨_, rfl, ?_, (RB.setCell (Nat.le_refl _) _).setCell (Nat.le_refl _) _⟩
    have h5 : OwnI w4 (w.heap.size + 1) (.slice (some ⟨g, 0, none⟩) 64 cap2) ((spreadN bs).map Int.ofNat) := by
      unfold OwnI
      rw [List.length_map, spreadN_len, List.map_map, show i64z ∘ Int.ofNat = i64v from rfl]
      rw [Nat.zero_add, List.nil_append] at hown4
      exact hown4
    exact ((h5.set (Nat.lt_succ_self _) _).set (Nat.lt_succ_self _) _).lower (Nat.le_succ _)
  · rw [show sprCode bs = 1 by simp [sprCode, h], show sprList bs = [] by simp [sprList, h]]
    have hne : (((bs.length : Nat) : Int) != 64) = true := by rw [bne_iff_ne]; omega
    go_enter Try.func14, Try.ntmps14
    go_wp2
    exact bodyPost_ret (v := .agg #[.int .i64 1, .slice none 0 0]) (by simp [results, Try.results14, go_sem]) rfl ⟨_, rfl, OwnI_nil _ _, alloc_below _ _⟩

set_option maxHeartbeats 1000000 in
theorem implSpr_c (p : Option Addr) (q : Nat) (bs : List UInt8) (w : World) (hr : Rd w p q bs) :
    Calls Try.prog 16 #[.slice p bs.length q] w fun e w' => ∃ u, e = .returned (.agg #[.int .i64 (sprCode bs), u]) ∧ OwnI w' w.heap.size u (sprList bs) ∧ Below w.heap.size w w' := by
  by_cases h : bs.length = 64
  · rw [show sprCode bs = 0 by simp [sprCode, h], show sprList bs = (spreadN bs).map Int.ofNat by simp [sprList, h]]
    obtain ⟨b, o, rfl⟩ := hr.block (by omega)
    have HL : Hid (bs.length = 64) := h
    rw [h]
    clear h
    have hzv : Hid (∀ w, (zeroValue 55).run Try.prog w = .ok (.agg zU.toArray) w) := (zero_of_info info_u64).1
    have hsz2 : Hid ((Try.prog.info? 55).map (·.size) = some ((spreadN bs).map u32v).toArray.size) := by show _ = _; rw [(zero_of_info info_u64).2]; simp [spreadN_len]
    go_enter Try.func16, Try.ntmps16
    go_wp2_with fail
    refine (spread_c b o q bs _ (hr.keep (alloc_below _ _)) HL.out).mono ?_
    rintro e w1 ⟨rfl, hb⟩
    have ho1 := (Arr.new w [.int .i64 0, .slice none 0 0] 24).stay hb
    have hB := Below.res hb
    have hA2 := (Arr.new w1 zU 55).row ((spreadN bs).map u32v)
    have ho2 := (ho1.old _ (Obj.cells zU.toArray 55)).rowOther (k := w1.heap.size) (by have := ho1.lt; omega) ((spreadN bs).map u32v).toArray
    have hB2 := Below.row (Below.mk hB (Obj.cells zU.toArray 55)) hB.size ((spreadN bs).map u32v).toArray
    have hmm : Hid ((spreadN bs).map u32v = ((spreadN bs).map Int.ofNat).map u32z) := by show _ = _; rw [List.map_map]; rfl
    clear ho1 hB hb
    go_wp2_with (first
      | refine wpList_alloc_arr rfl 55 rfl _ hzv.out w1.heap.size rfl ?_
      | refine wpList_store_row rfl 55 (.tmp 3) (.tmp 9) rfl w1.heap.size ((spreadN bs).map u32v).toArray rfl rfl 55 zU.toArray (heap_alloc_new _ _) hsz2.out (by simp [zU_len, spreadN_len]) (by simp [u32v]; intros; rfl) ?_)
    refine (numbersOf_n w1.heap.size 64 55 ((spreadN bs).map Int.ofNat) _ (by simp [spreadN_len]) (by rw [hmm.out] at hA2; rw [hmm.out]; exact hA2) (allW_nat (spreadN_ok bs)) (by decide)).mono ?_
    rintro e w2 ⟨u, rfl, hown, hb2⟩
    obtain ⟨p2, q2, rfl, -⟩ := hown.rd
    have m := ho2.stay hb2
    have d0 := m.cell 0
    have d1 := m.cell 1
    have e0 := m.frozen
    simp at d0 d1
    have RB := Below.step hB2 hb2
    have hge := ho2.lt
    clear ho2 hA2 hb2 hB2 hmm
    go_wp2
    refine bodyPost_ret (v := .agg #[.int .i64 0, .slice p2 ((spreadN bs).map Int.ofNat).length q2]) (by simp [results, Try.results16, go_sem, d0, d1]) rfl ⟨_, rfl, ?_, (RB.setCell (Nat.le_refl _) _).setCell (Nat.le_refl _) _⟩
    exact ((hown.set hge _).set hge _).lower (Nat.le_of_lt hge)
  · rw [show sprCode bs = 1 by simp [sprCode, h], show sprList bs = [] by simp [sprList, h]]
    have hne : (((bs.length : Nat) : Int) != 64) = true := by rw [bne_iff_ne]; omega
    go_enter Try.func16, Try.ntmps16
    go_wp2
    exact bodyPost_ret (v := .agg #[.int .i64 1, .slice none 0 0]) (by simp [results, Try.results16, go_sem]) rfl ⟨_, rfl, OwnI_nil _ _, alloc_below _ _⟩
end Go.Proofs.Ytbgiaoipdadanah
