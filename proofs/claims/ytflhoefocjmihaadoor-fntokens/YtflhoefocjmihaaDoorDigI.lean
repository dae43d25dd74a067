/- The contracts of the digest in the program: impl.throughBlock, impl.bytesOfState, impl.DigestOf (digestN in a row of its own, or the code): where the two tables hold what the program's text lays (Tabs). What was there stays. -/
import Derived.Test.YtflhoefocjmihaaDoorDigS
namespace Go.Proofs.YtflhoefocjmihaaDoor
open Go.ChangeShapes Go.WideShapes Go.ChangeAt Go.RowKit

/-- The two tables hold what the text lays. -/
def Tabs (w : World) : Prop :=
  (∃ t fr, w.heap[0]? = some (.cells (startN.list.map u32v).toArray t fr)) ∧ (∃ t fr, w.heap[1]? = some (.cells (keysN.map u32v).toArray t fr))
theorem block_of {w : World} {g : Nat} {o : Obj} (h : w.heap[g]? = some o) : g < w.heap.size := (Array.getElem?_eq_some_iff.1 h).1
theorem Tabs.keep {w w' : World} (h : Tabs w) (hb : Below w.heap.size w w') : Tabs w' := by
  obtain ⟨⟨t, fr, h1⟩, ⟨t', fr', h2⟩⟩ := h
  exact ⟨⟨t, fr, (hb.block _ (block_of h1)).trans h1⟩, ⟨t', fr', (hb.block _ (block_of h2)).trans h2⟩⟩
theorem Tabs.key {w : World} (h : Tabs w) {i : Nat} (hi : i < 64) : w.cell? ⟨1, i, none⟩ = some (.int .u32 (keysN.getD i 0 : Nat)) := by
  obtain ⟨-, ⟨t, fr, h2⟩⟩ := h
  have hl : i < keysN.length := hi
  rw [cell_of_row w _ i _ t fr h2]
  simp [u32v, hl]

theorem blockN_eq (s : S8) (bs : List UInt8) : blockN s bs = addS s (roundsN (spreadN bs) s 64) := rfl
theorem addS_comm (s t : S8) : addS s t = addS t s := by simp [addS, Nat.add_comm]
theorem sizes_u (s t : S8) : (s.list.map u32v).toArray.size = t.u32.size := rfl
theorem cells_u (s : S8) : s.u32.all (·.oneCell') = true := by simp [S8.u32]; exact ⟨rfl, rfl, rfl, rfl, rfl, rfl, rfl, rfl⟩

theorem info_u8 : (Tryd.prog.info? 79).map (fun i => (i.zero, i.size)) = some (some (.agg (List.replicate 8 (Value.int .u32 0)).toArray), 8) := by kernel_rfl
set_option maxRecDepth 4000 in
set_option maxHeartbeats 2000000 in
theorem throughBlock_c (st : S8) (b o cap : Nat) (bs : List UInt8) (w : World) (hr : Rd w (some ⟨b, o, none⟩) cap bs) (h64 : bs.length = 64) (hT : Tabs w) (hst : st.ok) :
    Calls Tryd.prog 63 #[.agg st.u32, .slice (some ⟨b, o, none⟩) 64 cap] w fun e w' => e = .returned (.agg (blockN st bs).u32) ∧ Below w.heap.size w w' := by
  have hs8 : Hid (∀ s : S8, (Tryd.prog.info? 79).map (·.size) = some s.u32.size) := by intro s; rw [(zero_of_info info_u8).2]; rfl
  have HR : Hid (Rd w (some ⟨b, o, none⟩) cap bs) := hr
  have HT : Hid (Tabs w) := hT
  have HL : Hid (bs.length = 64) := h64
  have HO : Hid st.ok := hst
  clear hr h64 hT hst
  show Calls Tryd.prog 63 #[.agg #[.int .u32 (st.a : Int), .int .u32 (st.b : Int), .int .u32 (st.c : Int), .int .u32 (st.d : Int), .int .u32 (st.e : Int), .int .u32 (st.f : Int), .int .u32 (st.g : Int), .int .u32 (st.h : Int)], .slice (some ⟨b, o, none⟩) 64 cap] w _
  go_enter Tryd.func63, Tryd.ntmps63
  go_wp2_with fail
  have BX : Below w.heap.size w (((w.alloc (.cells (st.list.map u32v).toArray 79)).alloc (.cells (List.replicate 8 (Value.int .u32 0)).toArray 79)).alloc (.cells (st.list.map u32v).toArray 79)) := Below.mk (Below.mk (alloc_below _ _) _) _
  refine (spread_c b o cap bs _ (HR.out.keep BX) HL.out).mono ?_
  rintro e w1 ⟨rfl, hb1⟩
  have X2 : Arr w1 w.heap.size 79 (st.list.map u32v) := (((Arr.new w (st.list.map u32v) 79).old _ _).old _ _).stay hb1
  have X4 : Arr w1 (w.heap.size + 1) 79 (List.replicate 8 (Value.int .u32 0)) := by
    have h := Arr.new (w.alloc (.cells (st.list.map u32v).toArray 79)) (List.replicate 8 (Value.int .u32 0)) 79
    rw [size_alloc] at h
    exact (h.old _ _).stay hb1
  have X5 : Arr w1 (w.heap.size + 1 + 1) 79 (st.list.map u32v) := by
    have h := Arr.new ((w.alloc (.cells (st.list.map u32v).toArray 79)).alloc (.cells (List.replicate 8 (Value.int .u32 0)).toArray 79)) (st.list.map u32v) 79
    rw [size_alloc, size_alloc] at h
    exact h.stay hb1
  have BW : Below w.heap.size w w1 := Below.step BX hb1
  have HB : Hid (blockN st bs = addS st (roundsN (spreadN bs) st 64)) := blockN_eq _ _
  have hwl : Hid ((spreadN bs).length = 64) := spreadN_len _
  clear hb1 BX HR HL
  generalize spreadN bs = ws at *
  have hix : ∀ j, j < 64 → (ws.map u32v)[j]? = some (.int .u32 (ws.getD j 0 : Nat)) := fun j hj => by have := hwl.out; simp [u32v, show j < ws.length by omega]
  go_wp2
  go_loopw [13] (fun i wr => ∃ j : Nat, j ≤ 64 ∧ i = .int .i64 j ∧ Arr wr (w.heap.size + 1 + 1) 79 ((roundsN ws st j).list.map u32v) ∧ Arr wr w.heap.size 79 (st.list.map u32v) ∧ Arr wr (w.heap.size + 1) 79 (List.replicate 8 (Value.int .u32 0)) ∧ Below w.heap.size w wr)
    (fun i _ => 64 - (intOf i).toNat)
  case atStart => exact ⟨0, Nat.zero_le _, rfl, X5, X2, X4, BW⟩
  case round =>
    clear X2 X4 X5 BW
    obtain ⟨j, hj, rfl, D, B, C, BW⟩ := hrel
    by_cases hjl : j < 64
    · have hstep : Hid (roundsN ws st (j + 1) = roundN (roundsN ws st j) (ws.getD j 0) (keysN.getD j 0)) := roundsN_succ _ _ _
      have hokr : Hid ((roundsN ws st j).ok) := roundsN_ok ws HO.out j
      have cK : ∀ s : HW wr, s.w.cell? ⟨1, j, none⟩ = some (.int .u32 (keysN.getD j 0 : Nat)) := HW.at ((HT.out.keep BW).key hjl)
      have hx : (ws.map u32v).toArray[j]? = some (.int .u32 (ws.getD j 0 : Nat)) := by rw [List.getElem?_toArray]; exact hix j hjl
      clear hix
      generalize ws.getD j 0 = wd at *
      generalize roundsN ws st j = R at *
      generalize keysN.getD j 0 = kd at *
      have hne := HW.some wr
      go_wp2_with (refine wpList_index_arr rfl 95 (.tmp 12) (.tmp 13) rfl 64 77 _ j .i64 .u32 (.int .u32 (wd : Nat)) rfl rfl Tryd.underlying95 hjl (by kernel_rfl) Tryd.underlying77 hx ?_)
      clear hx
      refine wp_region_tail_z (C := fun w' => ∃ s : HW wr, w' = s.w) 6 rfl rfl rfl (by kernel_rfl) (by kernel_rfl) (by kernel_rfl) (by kernel_rfl) ⟨⟨wr.drew, (Below.refl _ _).drew⟩, rfl⟩ ?_
      intro Z hZ
      simp only [List.take_succ_cons, List.take_zero]
      refine wpQuiet_load_row rfl 79 (.tmp 5) rfl (w.heap.size + 1 + 1) rfl 79 R.u32 (0, 0) _ (fun w' h => by obtain ⟨s, rfl⟩ := h; exact D.stay s.h) Tryd.underlying79 rfl (hs8.out R) ?_
      go_simp
      repeat (go_big_quiet_step ((go_at_call 80; exact Calls.stay (mixed_s R wd kd _ hokr.out))))
      refine wpQuiet_nil (hZ _ ?_)
      rintro w' ⟨s, rfl⟩ K hK
      refine wp_store_row 79 (.tmp 5) (.tmp 22) rfl (w.heap.size + 1 + 1) (roundN R wd kd).u32 rfl rfl 79 _ (D.stay s.h) (hs8.out _) (sizes_u _ _) (cells_u _) (hK _ _ ?_)
      clear cK hne
      go_wp2
      go_roundw
      case rel =>
        exact ⟨j + 1, by omega, by go_num, by rw [hstep.out]; exact (D.stay s.h).row ((roundN R wd kd).list.map u32v), (B.stay s.h).rowOther (by omega) _, (C.stay s.h).rowOther (by omega) _, Below.row (Below.step BW s.h) (by omega) _⟩
      case measure => simp [intOf]; omega
    · have e : j = 64 := by omega
      subst e
      have hokr : Hid ((roundsN ws st 64).ok) := roundsN_ok ws HO.out 64
      generalize roundsN ws st 64 = R at *
      clear hjl hj hix hwl
      have hsS : Hid ((Tryd.prog.info? 79).map (·.size) = some (st.list.map u32v).toArray.size) := hs8.out st
      go_wp2_with (refine wpList_load_row rfl 79 (.tmp 2) rfl w.heap.size rfl 79 (st.list.map u32v).toArray (0, 0) _ B Tryd.underlying79 rfl hsS.out ?_)
      go_loopw [25] (fun i wr => ∃ j : Nat, j ≤ 8 ∧ i = .int .i64 j ∧ Arr wr (w.heap.size + 1 + 1) 79 (addV u32v R st j) ∧ Arr wr (w.heap.size + 1) 79 (List.replicate 8 (Value.int .u32 0)) ∧ Below w.heap.size w wr)
        (fun i _ => 8 - (intOf i).toNat)
      case atStart => exact ⟨0, Nat.zero_le _, rfl, by rw [addV_zero]; exact D, C, BW⟩
      case round =>
        clear D B C BW hsS
        obtain ⟨j, hj, rfl, D, C, BW⟩ := hrel
        by_cases hjl : j < 8
        · have hx : (st.list.map u32v).toArray[j]? = some (.int .u32 (st.list.getD j 0 : Nat)) := by rw [List.getElem?_toArray]; exact listV_at u32v st hjl
          have cS := (D.cell j).trans (addV_at u32v R st hjl)
          have fS := D.frozen j
          have bS := (S8.words HO.out).getD j
          have bR := (S8.words hokr.out).getD j
          have RS := D.set j (u32v ((R.list.getD j 0 + st.list.getD j 0) % 4294967296))
          rw [addV_set u32v R st hjl] at RS
          have RC := C.setOther (a := ⟨w.heap.size + 1 + 1, j, none⟩) (by show w.heap.size + 1 ≠ w.heap.size + 1 + 1; omega)
          have RB := fun v => Below.setCell (p := ⟨w.heap.size + 1 + 1, j, none⟩) BW (by show w.heap.size ≤ w.heap.size + 1 + 1; omega) v
          unfold u32v at cS RS
          generalize st.list.getD j 0 = x at *
          generalize R.list.getD j 0 = y at *
          clear D C BW
          go_wp2_with (refine wpList_index_arr rfl 79 (.tmp 24) (.tmp 25) rfl 8 77 _ j .i64 .u32 (.int .u32 (x : Nat)) rfl rfl Tryd.underlying79 hjl (by kernel_rfl) Tryd.underlying77 hx ?_)
          clear hx
          go_roundw
          case rel =>
            have E : (((y : Int) + (x : Int)) % 4294967296) = (((y + x) % 4294967296 : Nat) : Int) := by omega
            rw [E]
            exact ⟨j + 1, by omega, by go_num, RS, RC _, RB _⟩
          case measure => simp [intOf]; omega
        · have e : j = 8 := by omega
          subst e
          rw [addV_all, addS_comm, ← HB.out] at D
          have hsR : Hid ((Tryd.prog.info? 79).map (·.size) = some ((blockN st bs).list.map u32v).toArray.size) := hs8.out (blockN st bs)
          clear HB hokr hj hjl
          obtain ⟨S, hS⟩ : ∃ S, S = blockN st bs := ⟨_, rfl⟩
          rw [← hS] at D hsR
          have HS : Hid (S = blockN st bs) := hS
          clear hS
          go_wp2_with (first
            | refine wpList_load_row rfl 79 (.tmp 5) rfl (w.heap.size + 1 + 1) rfl 79 (S.list.map u32v).toArray (0, 0) _ D Tryd.underlying79 rfl hsR.out ?_
            | refine wpList_store_row rfl 79 (.tmp 4) (.tmp 36) rfl (w.heap.size + 1) (S.list.map u32v).toArray rfl rfl 79 (List.replicate 8 (Value.int .u32 0)).toArray C hsR.out rfl (cells_u S) ?_)
          exact bodyPost_ret (v := .agg S.u32) (results_cell_row Tryd.results63 _ _ (w.heap.size + 1) 79 _ (0, 0) _ rfl (C.row (S.list.map u32v)) Tryd.underlying79 rfl hsR.out) rfl ⟨by rw [HS.out], Below.row BW (Nat.le_succ _) _⟩
end Go.Proofs.YtflhoefocjmihaaDoor

