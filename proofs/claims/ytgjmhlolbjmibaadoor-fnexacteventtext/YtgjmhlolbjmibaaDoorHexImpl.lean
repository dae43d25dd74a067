/- The contracts of HexOf in the program. -/
import Derived.Test.YtgjmhlolbjmibaaDoorHexSpec
import Derived.Test.YtgjmhlolbjmibaaDoorCopy
import Derived.Deep.RegionHeld3
import Derived.Deep.AppendLies
namespace Go.Proofs.YtgjmhlolbjmibaaDoor
open Go.ChangeShapes Go.WideShapes Go.ChangeAt Go.RowKit

theorem and15 (v : Int) (h0 : 0 ≤ v) (h1 : v ≤ 255) : bits .and .u8 v 15 = v % 16 := by
  obtain ⟨n, rfl⟩ := Int.eq_ofNat_of_zero_le h0
  rw [show (15 : Int) = ((15 : Nat) : Int) from rfl, u8_and_nat n 15 (by omega) (by decide), show (15 : Nat) = 2 ^ 4 - 1 from rfl, Nat.and_two_pow_sub_one_eq_mod]
  omega

theorem hexstr_at (q : Int) (h0 : 0 ≤ q) (h1 : q < 16) (h : q.toNat < ByteArray.size { data := #[48, 49, 50, 51, 52, 53, 54, 55, 56, 57, 97, 98, 99, 100, 101, 102] }) :
    (ByteArray.mk #[48, 49, 50, 51, 52, 53, 54, 55, 56, 57, 97, 98, 99, 100, 101, 102])[q.toNat]'h = hexD q := by
  rcases (show q = 0 ∨ q = 1 ∨ q = 2 ∨ q = 3 ∨ q = 4 ∨ q = 5 ∨ q = 6 ∨ q = 7 ∨ q = 8 ∨ q = 9 ∨ q = 10 ∨ q = 11 ∨ q = 12 ∨ q = 13 ∨ q = 14 ∨ q = 15 by omega) with rfl | rfl | rfl | rfl | rfl | rfl | rfl | rfl | rfl | rfl | rfl | rfl | rfl | rfl | rfl | rfl
  all_goals rfl

set_option maxRecDepth 4000 in
set_option maxHeartbeats 2000000 in
theorem implHex_c (a : Option Addr) (cap : Nat) (bs : List UInt8) (w : World) (hr : Rd w a cap bs) :
    Calls Tryd.prog 26 #[.slice a bs.length cap] w fun e w' => e = .returned (.agg #[.int .i64 (hexCode bs), .string (strB (hexText bs))]) ∧ Below w.heap.size w w' := by
  by_cases hl : bs.length ≤ 600
  · rw [show hexCode bs = 0 by simp [hexCode, hl], show hexText bs = hexL bs by simp [hexText, hl]]
    obtain ⟨i0, hi, hz0, hz1, hz2⟩ := info_parts info8
    have hm : 2 * bs.length ≤ maxLen := by unfold maxLen; omega
    go_enter Tryd.func26, Tryd.ntmps26
    go_wp2_with (first
      | (at_make; refine wpList_make_own _ rfl (.const (.int .i64 0)) (.tmp 12) 22 rfl (w.heap.size + 1) 5 i0 (.int .u8 0) 1 Tryd.underlying22 hi hz0 hz1 .i64 .i64 _ (2 * bs.length) rfl rfl (by simp) (by rw [hz2]; omega) hm (by simp) ?_; intro w1 hown hgrow)
      | go_in)
    have hb1 : Below (w.heap.size + 1) (w.alloc (Obj.cells #[Value.int IntKind.i64 0, Value.string { data := #[] }] 27)) w1 := (Below.refl _ _).grown hgrow (by simp) (fun k hk => by simp at hk)
    have hr2 := hr.keep (alloc_below w (Obj.cells #[Value.int IntKind.i64 0, Value.string { data := #[] }] 27))
    clear hgrow hr
    go_loopw [3, 16] (fun v i wr => ∃ k : Nat, k ≤ bs.length ∧ i = .int .i64 k ∧ Own wr (w.heap.size + 1) v (hexL (bs.take k)) ∧ Below (w.heap.size + 1) (w.alloc (Obj.cells #[Value.int IntKind.i64 0, Value.string { data := #[] }] 27)) wr)
      (fun _ i _ => bs.length - (intOf i).toNat)
    case atStart => rw [size_alloc] at hown; exact ⟨0, Nat.zero_le _, rfl, hown, hb1⟩
    case round =>
      obtain ⟨k, hk, rfl, ho, hbel⟩ := hrel
      obtain ⟨p, c, rfl, -⟩ := ho.rd
      by_cases hlt : k < bs.length
      · obtain ⟨b, o, rfl, hc⟩ := hr2.2.2.2 (by omega)
        have hcx : wr.cell? ⟨b, o + k, none⟩ = some (.int .u8 (at8 bs k)) := by
          have h := hc k hlt
          have hlb := World.block_lt_of_cell? _ _ h
          rw [size_alloc] at hlb
          exact (hbel.cell hlb).trans h
        have HT : Hid (hexL (bs.take (k + 1)) = hexL (bs.take k) ++ [hexD (at8 bs k / 16)] ++ [hexD (at8 bs k % 16)]) := hexL_take bs k hlt
        have hlen : (hexL (bs.take k)).length ≤ 1200 := by rw [hexL_len]; have := List.length_take_le k bs; omega
        have hsz := hbel.size
        rw [size_alloc] at hsz
        have h0 := at8_lo bs k
        have h1 := at8_hi bs k
        have hand := and15 _ h0 h1
        generalize hexL (bs.take k) = x at *
        have hq0 : 0 ≤ at8 bs k / 16 := by omega
        have hq1 : at8 bs k / 16 < 16 := by omega
        have hm0 : 0 ≤ at8 bs k % 16 := by omega
        have hm1 : at8 bs k % 16 < 16 := by omega
        generalize at8 bs k = v at *
        have hx1 := hexstr_at (v / 16) hq0 hq1
        have hx2 := hexstr_at (v % 16) hm0 hm1
        clear hc hr2 hown hb1
        go_wp2
        go_region_held3 (fun _ => True) (trivial) ((refine step_append_lies _ (by rfl) (.tmp 20) (.tmp 27) 22 (by rfl) (w.heap.size + 1) 5 i0 (.int .u8 0) 1 1 Tryd.underlying22 hi hz0 hz1 hz2 rfl (by decide) (.slice p x.length c) x.length (x.map u8v) (by rfl) (World.ownsRow.drew (World.ownsRow.alloc ho _)) ⟨wr.heap.size, 0, none⟩ 2 2 [.int .u8 (hexD (v / 16)).toNat, .int .u8 (hexD (v % 16)).toNat] (by rfl) (by rfl) (cell_two_new wr _ _ _) (by intro u hu; simp at hu; rcases hu with rfl | rfl <;> rfl) (by decide) (by unfold maxLen; omega) (by omega) (by simp; omega) (wr.heap.size + 1) (by simp) ?_; intro g cap2 w2 hown2 hgrow2 hat hlt2))
        all_goals
          have R := own_two hown2
          rw [← HT.out] at R
          have RB := ((hbel.alloc hsz _).drew).grown hgrow2 (by simp; omega) (fun j hj => ho.ge j hj)
          clear hown2 hgrow2 ho hbel hx1 hx2 hand
          go_wp2
          go_roundw
          case rel => exact ⟨k + 1, by omega, by go_num, R, RB⟩
          case measure => simp [intOf]; omega
      · have e : k = bs.length := by omega
        subst e
        rw [List.take_length] at ho ⊢
        have es := run_str (P := Tryd.prog) (Rd.own ho) (src := 22) (dst := 9) (e := 5) Tryd.underlying22 Tryd.underlying5 Tryd.underlying9
        obtain ⟨hc, hf⟩ := bcell hbel
        go_wp2
        have hres : Below w.heap.size w wr := ((Below.refl _ _).alloc (Nat.le_refl _) _).trans (hbel.mono (Nat.le_succ _))
        exact bodyPost_ret (v := .agg #[.int .i64 0, .string (strB (hexL bs))]) (by simp [results, Tryd.results26, go_sem, hc]) rfl ⟨rfl, (hres.setCell (Nat.le_refl _) _).setCell (Nat.le_refl _) _⟩
  · rw [show hexCode bs = 2 by simp [hexCode, hl], show hexText bs = [] by simp [hexText, hl]]
    go_enter Tryd.func26, Tryd.ntmps26
    go_wp2
    exact bodyPost_ret (v := .agg #[.int .i64 2, .string (strB [])]) (by simp [results, Tryd.results26, go_sem]; rfl) rfl ⟨rfl, alloc_below _ _⟩
end Go.Proofs.YtgjmhlolbjmibaaDoor
