/- The contracts of impl.bytesOfState and of DigestOf in the program and in the specification: digestN in a row of its own, or the code. The program's where the two tables hold what its text lays (Tabs). What was there stays. -/
import Derived.Test.YtflhoefocjmihaaDoorDigI
namespace Go.Proofs.YtflhoefocjmihaaDoor
open Go.ChangeShapes Go.WideShapes Go.ChangeAt Go.RowKit

theorem put4 (x : Nat) : putB x 4 = [UInt8.ofNat (x / 16777216 % 256), UInt8.ofNat (x / 65536 % 256), UInt8.ofNat (x / 256 % 256), UInt8.ofNat (x / 1 % 256)] := rfl
theorem u8v_of (v : Nat) (h : v < 256) : u8v (UInt8.ofNat v) = .int .u8 (v : Int) := by
  unfold u8v
  rw [UInt8.toNat_ofNat', Nat.mod_eq_of_lt h]
theorem put4_rd (w : World) (x : Nat) (h : x < 4294967296) (t : TypeId) (a b c d : Int) (ha : a = (x : Int) / 16777216) (hb : b = ((x : Int) / 65536) % 256) (hc : c = ((x : Int) / 256) % 256) (hd : d = (x : Int) % 256) :
    Rd (w.alloc (.cells #[.int .u8 a, .int .u8 b, .int .u8 c, .int .u8 d] t)) (some ⟨w.heap.size, 0, none⟩) 4 (putB x 4) := by
  have hA := Arr.new w [.int .u8 a, .int .u8 b, .int .u8 c, .int .u8 d] t
  refine ⟨by rw [putB_len]; exact Nat.le_refl _, by unfold maxLen; decide, fun e => by simp at e, fun _ => ⟨_, _, rfl, fun i hi => ?_⟩⟩
  rw [putB_len] at hi
  rw [Nat.zero_add, hA.cell, ← u8v_at (by rw [putB_len]; exact hi), put4]
  have e1 : u8v (UInt8.ofNat (x / 16777216 % 256)) = .int .u8 a := by rw [u8v_of _ (by omega), ha]; congr 1; omega
  have e2 : u8v (UInt8.ofNat (x / 65536 % 256)) = .int .u8 b := by rw [u8v_of _ (by omega), hb]; congr 1
  have e3 : u8v (UInt8.ofNat (x / 256 % 256)) = .int .u8 c := by rw [u8v_of _ (by omega), hc]; congr 1
  have e4 : u8v (UInt8.ofNat (x / 1 % 256)) = .int .u8 d := by rw [u8v_of _ (by omega), hd]; congr 1; omega
  simp only [List.map_cons, List.map_nil, e1, e2, e3, e4]

set_option maxRecDepth 4000 in
set_option maxHeartbeats 2000000 in
theorem bytesOfState_c (st : S8) (w : World) (hst : st.ok) :
    Calls Tryd.prog 64 #[.agg st.u32] w fun e w' => ∃ u, e = .returned u ∧ Own w' w.heap.size u (stateB st) ∧ Below w.heap.size w w' := by
  obtain ⟨i0, hi, hz0, hz1, hz2⟩ := info_parts info8
  have hs8 : Hid ((Tryd.prog.info? 79).map (·.size) = some (st.list.map u32v).toArray.size) := by show _ = _; rw [(zero_of_info info_u8).2]; rfl
  have HO : Hid st.ok := hst
  clear hst
  have B : Arr (w.alloc (.cells (st.list.map u32v).toArray 79)) w.heap.size 79 (st.list.map u32v) := Arr.new _ _ _
  show Calls Tryd.prog 64 #[.agg #[.int .u32 (st.a : Int), .int .u32 (st.b : Int), .int .u32 (st.c : Int), .int .u32 (st.d : Int), .int .u32 (st.e : Int), .int .u32 (st.f : Int), .int .u32 (st.g : Int), .int .u32 (st.h : Int)]] w _
  go_enter Tryd.func64, Tryd.ntmps64
  go_wp2_with (first
    | (at_make; refine wpList_make_own _ rfl (.const (.int .i64 0)) (.const (.int .i64 32)) 22 rfl w.heap.size 5 i0 (.int .u8 0) 1 Tryd.underlying22 hi hz0 hz1 .i64 .i64 _ 32 rfl rfl rfl (by rw [hz2]; decide) (by unfold maxLen; decide) (by simp) ?_; intro w1 hown hgrow; replace B := B.other hgrow (by simp))
    | refine wpList_load_row rfl 79 (.tmp 1) rfl w.heap.size rfl 79 (st.list.map u32v).toArray (0, 0) _ B Tryd.underlying79 rfl hs8.out ?_
    | go_in)
  have BW : Below w.heap.size w w1 := (alloc_below _ _).grown hgrow (by simp) (fun k hk => by simp at hk)
  rw [size_alloc] at hown
  clear hgrow hz0 hz1 hz2 hi B
  go_loopw [3, 8] (fun v i wr => ∃ j : Nat, j ≤ 8 ∧ i = .int .i64 j ∧ Own wr w.heap.size v (takeB st.list j) ∧ Below w.heap.size w wr)
    (fun _ i _ => 8 - (intOf i).toNat)
  case atStart => exact ⟨0, Nat.zero_le _, rfl, hown, BW⟩
  case round =>
    clear hown BW
    obtain ⟨j, hj, rfl, ho, BW⟩ := hrel
    obtain ⟨a6, c6, rfl, -⟩ := ho.rd
    have hlen : Hid ((takeB st.list j).length = 4 * j) := takeB_len st hj
    rw [hlen.out] at ho ⊢
    by_cases hjl : j < 8
    · have hx : (st.list.map u32v).toArray[j]? = some (.int .u32 (st.list.getD j 0 : Nat)) := by rw [List.getElem?_toArray]; exact listV_at u32v st hjl
      have bS := (S8.words HO.out).getD j
      have TS : Hid (takeB st.list j ++ putB (st.list.getD j 0) 4 = takeB st.list (j + 1)) := takeB_succ st hjl
      generalize st.list.getD j 0 = x at *
      have ho2 := fun o => ho.stay (alloc_below wr o)
      go_wp2_with (first
        | refine wpList_index_arr rfl 79 (.tmp 7) (.tmp 8) rfl 8 77 _ j .i64 .u32 (.int .u32 (x : Nat)) rfl rfl Tryd.underlying79 hjl (by kernel_rfl) Tryd.underlying77 hx ?_
        | (at_builtin; go_loud (refine wpList_append_rd rfl (.tmp 11) (.tmp 23) rfl w.heap.size _ (takeB st.list j) rfl (ho2 _) _ 4 (putB x 4) rfl (put4_rd wr x bS _ _ _ _ _ (by omega) (by omega) (by omega) (by omega)) (by rw [hlen.out, putB_len]; omega) (by have := BW.size; simp; omega) ?_); intro v8 w8 ho8 hg8)
        | go_in)
      have BW8 := (Below.mk BW _).grown hg8 (by have := BW.size; simp; omega) (fun k hk => ho.ge k hk)
      rw [TS.out] at ho8
      clear ho ho2 hg8 hx TS
      go_roundw
      case rel => exact ⟨j + 1, by omega, by go_num, ho8, BW8⟩
      case measure => simp [intOf]; omega
    · have e : j = 8 := by omega
      subst e
      go_wp2
      go_ret
      exact ⟨_, rfl, by rw [← takeB_all]; exact ho, BW⟩

def dgCode (bs : List UInt8) : Int := if bs.length ≤ 600 then 0 else 2
def dgList (bs : List UInt8) : List UInt8 := if bs.length ≤ 600 then digestN bs else []
theorem dgList_len (bs : List UInt8) : (dgList bs).length ≤ 1048576 := by
  unfold dgList; split
  · rw [digestN_len]; decide
  · simp


set_option maxRecDepth 4000 in
set_option maxHeartbeats 2000000 in
theorem implDg_c (p : Option Addr) (q : Nat) (bs : List UInt8) (w : World) (hr : Rd w p q bs) (hT : Tabs w) :
    Calls Tryd.prog 47 #[.slice p bs.length q] w fun e w' => ∃ u, e = .returned (.agg #[.int .i64 (dgCode bs), u]) ∧ Own w' w.heap.size u (dgList bs) ∧ Below w.heap.size w w' := by
  by_cases h : bs.length ≤ 600
  · rw [show dgCode bs = 0 by simp [dgCode, h], show dgList bs = digestN bs by simp [dgList, h]]
    have hs8 : Hid (∀ s : S8, (Tryd.prog.info? 79).map (·.size) = some (s.list.map u32v).toArray.size) := by intro s; rw [(zero_of_info info_u8).2]; rfl
    have hzs : Hid (∀ w, (zeroValue 79).run Tryd.prog w = .ok (.agg (List.replicate 8 (Value.int .u32 0)).toArray) w) := (zero_of_info info_u8).1
    have HT : Hid (Tabs w) := hT
    obtain ⟨t0, fr0, hG⟩ := (hT.keep (alloc_below w (.cells #[.int .i64 0, .slice none 0 0] 33))).1
    have C1 := Arr.new w [.int .i64 0, .slice none 0 0] 33
    have D1 := Arr.new (w.alloc (.cells #[.int .i64 0, .slice none 0 0] 33)) (List.replicate 8 (Value.int .u32 0)) 79
    rw [size_alloc] at D1
    have C2 := (C1.old _ (.cells (List.replicate 8 (Value.int .u32 0)).toArray 79)).rowOther (g := w.heap.size) (k := w.heap.size + 1) (by omega) (startN.list.map u32v).toArray
    have D2 := D1.row (startN.list.map u32v)
    have BX : Below w.heap.size w (((w.alloc (.cells #[.int .i64 0, .slice none 0 0] 33)).alloc (.cells (List.replicate 8 (Value.int .u32 0)).toArray 79)).setRow (w.heap.size + 1) (startN.list.map u32v).toArray) := Below.row (Below.mk (alloc_below _ _) _) (by omega) _
    clear hT
    go_enter Tryd.func47, Tryd.ntmps47
    go_wp2_with (first
      | refine wpList_load_row rfl 79 (.global 0) rfl 0 rfl t0 (startN.list.map u32v).toArray fr0 _ hG Tryd.underlying79 rfl (hs8.out startN) ?_
      | refine wpList_alloc_arr rfl 79 rfl _ hzs.out (w.heap.size + 1) (size_alloc _ _) ?_
      | refine wpList_store_row rfl 79 (.tmp 3) (.tmp 10) rfl (w.heap.size + 1) (startN.list.map u32v).toArray rfl rfl 79 (List.replicate 8 (Value.int .u32 0)).toArray D1 (hs8.out startN) rfl (cells_u startN) ?_)
    refine (padded_c p q bs _ (hr.keep BX) h).mono ?_
    rintro e w3 ⟨u, rfl, hu, hb3⟩
    replace C2 := C2.stay hb3
    replace D2 := D2.stay hb3
    have BW : Below w.heap.size w w3 := Below.step BX hb3
    rw [size_setRow, size_alloc, size_alloc] at hu
    clear BX hb3 D1 C1 hr hG
    have hn : Hid ((padN bs).length = 64 * ((bs.length + 72) / 64)) := padN_len_n bs
    have hn1 : 1 ≤ (bs.length + 72) / 64 := by omega
    have hn2 : (bs.length + 72) / 64 ≤ 11 := by omega
    obtain ⟨a5, c5, rfl, hrd5⟩ := hu.rd
    obtain ⟨b5, o5, rfl, -⟩ := hrd5.2.2.2 (by rw [hn.out]; omega)
    have hc1 : 64 * ((bs.length + 72) / 64) ≤ c5 := by have := hrd5.1; rw [hn.out] at this; exact this
    have hc2 : c5 ≤ 2 ^ 63 - 1 := hrd5.2.1
    clear hrd5
    rw [hn.out] at hu ⊢
    have HD : Hid (digestN bs = stateB (blocksN (padN bs) ((bs.length + 72) / 64))) := rfl
    generalize (bs.length + 72) / 64 = n at *
    clear h
    go_wp2
    go_loopw [5] (fun i wr => ∃ k : Nat, k ≤ n ∧ i = .int .i64 (64 * (k : Int)) ∧ Arr wr (w.heap.size + 1) 79 ((blocksN (padN bs) k).list.map u32v) ∧ Arr wr w.heap.size 33 [.int .i64 0, .slice none 0 0] ∧ Own wr (w.heap.size + 1 + 1) (.slice (some ⟨b5, o5, none⟩) (64 * n) c5) (padN bs) ∧ Below w.heap.size w wr)
      (fun i _ => 64 * n - (intOf i).toNat)
    case atStart => exact ⟨0, Nat.zero_le _, rfl, D2, C2, hu, BW⟩
    case round =>
      clear D2 C2 hu BW
      obtain ⟨k, hk, rfl, D, C, hu, BW⟩ := hrel
      by_cases hlt : k < n
      · have hrd : Rd wr (some ⟨b5, o5, none⟩) c5 (padN bs) := by have h := hu; rw [← hn.out] at h; exact Rd.own h
        have hcut : Hid (Rd wr (some ⟨b5, o5 + 64 * k, none⟩) (c5 - 64 * k) (((padN bs).drop (64 * k)).take 64)) := hrd.cut (64 * k) 64 (c5 - 64 * k) (by rw [hn.out]; omega) (by omega) (by have := hrd.2.1; omega)
        have h64 : Hid ((((padN bs).drop (64 * k)).take 64).length = 64) := by show _ = _; have := hn.out; simp; omega
        have HB : Hid (blocksN (padN bs) (k + 1) = blockN (blocksN (padN bs) k) (((padN bs).drop (64 * k)).take 64)) := blocksN_succ _ _
        have hok : Hid ((blocksN (padN bs) k).ok) := blocksN_ok (padN bs) k
        have hTr : Hid (Tabs wr) := HT.out.keep BW
        generalize blocksN (padN bs) k = st at *
        generalize ((padN bs).drop (64 * k)).take 64 = blk at *
        have hne := HW.some wr
        have hwk : IntKind.i64.wrap (64 * (k : Int) + 64) = 64 * (k : Int) + 64 := by rw [IntKind.wrap_i64]; omega
        have hi1 : (64 * (k : Int)).toNat = 64 * k := by omega
        have hi2 : (64 * (k : Int) + 64).toNat = 64 * k + 64 := by omega
        clear hrd
        go_wp2
        refine wp_region_tail_z (C := fun w' => ∃ s : HW wr, w' = s.w) 7 rfl rfl rfl (by kernel_rfl) (by kernel_rfl) (by kernel_rfl) (by kernel_rfl) ⟨⟨wr.drew, (Below.refl _ _).drew⟩, rfl⟩ ?_
        intro Z hZ
        simp only [List.take_succ_cons, List.take_zero]
        refine wpQuiet_load_row rfl 79 (.tmp 3) rfl (w.heap.size + 1) rfl 79 st.u32 (0, 0) _ (fun w' h => by obtain ⟨s, rfl⟩ := h; exact D.stay s.h) Tryd.underlying79 rfl (hs8.out st) ?_
        go_simp
        repeat (go_big_quiet_step ((go_at_call 63; exact Calls.stay (throughBlock_c st b5 (o5 + 64 * k) (c5 - 64 * k) blk _ (hcut.out.keep (HW.h _)) h64.out (hTr.out.keep (HW.h _)) hok.out))))
        refine wpQuiet_nil (hZ _ ?_)
        rintro w' ⟨s, rfl⟩ K hK
        refine wp_store_row 79 (.tmp 3) (.tmp 25) rfl (w.heap.size + 1) (blockN st blk).u32 rfl rfl 79 _ (D.stay s.h) (hs8.out _) (sizes_u _ _) (cells_u _) (hK _ _ ?_)
        clear hne hwk hi1 hi2
        go_wp2
        go_roundw
        case rel =>
          exact ⟨k + 1, hlt, by go_num, by rw [HB.out]; exact (D.stay s.h).row ((blockN st blk).list.map u32v), (C.stay s.h).rowOther (by omega) _, (hu.stay s.h).row (fun k hk => by have := hu.ge k hk; omega) _, Below.row (Below.step BW s.h) (by omega) _⟩
        case measure => simp [intOf]; omega
      · have e : k = n := by omega
        subst e
        have hok : Hid ((blocksN (padN bs) k).ok) := blocksN_ok (padN bs) k
        generalize blocksN (padN bs) k = st at *
        clear hu hk hlt
        have hsS := hs8.out st
        go_wp2_with (refine wpList_load_row rfl 79 (.tmp 3) rfl (w.heap.size + 1) rfl 79 (st.list.map u32v).toArray (0, 0) _ D Tryd.underlying79 rfl hsS ?_)
        refine (bytesOfState_c st _ hok.out).mono ?_
        rintro e w7 ⟨u7, rfl, ho, hb7⟩
        obtain ⟨a7, c7, rfl, -⟩ := ho.rd
        replace C := C.stay hb7
        have h0 := C.cell 0
        have h1 := C.cell 1
        simp at h0 h1
        have f0 := C.frozen
        have zz := C.lt
        replace BW := Below.step BW hb7
        have hge : Hid (w.heap.size < wr.heap.size) := by have := D.lt; show _ < _; omega
        rw [stateB_len] at *
        go_wp2
        refine bodyPost_ret (v := .agg #[.int .i64 0, .slice a7 32 c7]) (by simp [results, Tryd.results47, go_sem, h0, h1]) rfl ⟨_, rfl, ?_, (BW.setCell (Nat.le_refl _) _).setCell (Nat.le_refl _) _⟩
        rw [HD.out]
        exact ((ho.set hge.out _).set hge.out _).lower (Nat.le_of_lt hge.out)
  · rw [show dgCode bs = 2 by simp [dgCode, h], show dgList bs = [] by simp [dgList, h]]
    go_enter Tryd.func47, Tryd.ntmps47
    go_wp2
    exact bodyPost_ret (v := .agg #[.int .i64 2, .slice none 0 0]) (by simp [results, Tryd.results47, go_sem]) rfl ⟨_, rfl, Own_nil _ _, alloc_below _ _⟩
end Go.Proofs.YtflhoefocjmihaaDoor

