/- The laws' own draw of a number, its value (lwAt), and the stream that the bytes choose (lwStream). -/
import Derived.Test.YtdemfbbjdnjolaaDoorJoint17
import Derived.Test.YtdemfbbjdnjolaaDoorStreamC
import Derived.Test.YtdemfbbjdnjolaaDoorJoint10
import Derived.Test.YtdemfbbjdnjolaaDoorRows
import Derived.Test.YtdemfbbjdnjolaaDoorJoint1
import Derived.ProofKit
import Derived.OpenShut
import Derived.Test.YtdemfbbjdnjolaaDoorCopy
import Derived.Test.YtdemfbbjdnjolaaDoorJoint7
import Derived.Test.YtdemfbbjdnjolaaDoorJoint11
namespace Go.Proofs.YtdemfbbjdnjolaaDoor
open Go.ChangeShapes Go.WideShapes Go.ChangeAt Go.RowKit

def lwN (cs : List UInt8) (i n : Nat) : Int :=
  if n ≤ 1 then 0 else if cs.length = 0 then ((i : Int) * 7) % (n : Int) else
    if 200 < n then ((at8 cs (i % cs.length) + ((i / cs.length : Nat) : Int) * 3) * 251 + at8 cs ((i + 1) % cs.length)) % (n : Int) else (at8 cs (i % cs.length) + ((i / cs.length : Nat) : Int) * 3) % (n : Int)
theorem lwN_lo (cs : List UInt8) (i n : Nat) : 0 ≤ lwN cs i n := by
  unfold lwN
  split
  · exact Int.le_refl _
  · have h : (n : Int) ≠ 0 := by omega
    split
    · exact Int.emod_nonneg _ h
    · split <;> exact Int.emod_nonneg _ h
theorem lwN_hi (cs : List UInt8) (i n : Nat) (hn : 1 < n) : lwN cs i n < (n : Int) := by
  unfold lwN
  have h : (0 : Int) < (n : Int) := by omega
  rw [if_neg (by omega)]
  split
  · exact Int.emod_lt_of_pos _ h
  · split <;> exact Int.emod_lt_of_pos _ h
set_option maxRecDepth 4000 in
set_option maxHeartbeats 2000000 in
theorem lwAt_e (p : Option Addr) (q : Nat) (cs : List UInt8) (i n : Nat) (w : World) (hr : Rd w p q cs) (hl : cs.length ≤ 1048576) (hi : i ≤ 1000) (hn : n ≤ 1000000) :
    Calls Tryd.prog 8 #[.slice p cs.length q, .int .i64 (i : Int), .int .i64 (n : Int)] w fun e w' => e = .returned (.int .i64 (lwN cs i n)) ∧ Below w.heap.size w w' := by
  by_cases h1 : n ≤ 1
  · rw [show lwN cs i n = 0 by rw [lwN, if_pos h1]]
    go_enter Tryd.func8, Tryd.ntmps8
    go_wp2
    go_ret
    exact ⟨rfl, Below.refl _ _⟩
  · have hn0 : ((n : Int) == 0) = false := by rw [beq_eq_false_iff_ne]; omega
    by_cases h2 : cs.length = 0
    · have HV : Hid (lwN cs i n = ((i : Int) * 7) % (n : Int)) := by show _ = _; rw [lwN, if_neg h1, if_pos h2]
      rw [h2]
      go_enter Tryd.func8, Tryd.ntmps8
      go_wp2
      go_ret
      exact ⟨by rw [HV.out]; rfl, Below.refl _ _⟩
    · have hk0 : ((cs.length : Int) == 0) = false := by rw [beq_eq_false_iff_ne]; omega
      have HV : Hid (lwN cs i n = if 200 < n then ((at8 cs (i % cs.length) + ((i / cs.length : Nat) : Int) * 3) * 251 + at8 cs ((i + 1) % cs.length)) % (n : Int) else (at8 cs (i % cs.length) + ((i / cs.length : Nat) : Int) * 3) % (n : Int)) := by show _ = _; rw [lwN, if_neg h1, if_neg h2]
      have hd1 : i / cs.length ≤ i := Nat.div_le_self _ _
      have hr1 : i % cs.length < cs.length := Nat.mod_lt _ (by omega)
      have hr2 : (i + 1) % cs.length < cs.length := Nat.mod_lt _ (by omega)
      have e1 : (i : Int) / (cs.length : Int) = ((i / cs.length : Nat) : Int) := by push_cast; rfl
      have e2 : (i : Int) % (cs.length : Int) = ((i % cs.length : Nat) : Int) := by push_cast; rfl
      have e3 : ((i : Int) + 1) % (cs.length : Int) = (((i + 1) % cs.length : Nat) : Int) := by push_cast; rfl
      have et1 : (i : Int).tdiv (cs.length : Int) = ((i / cs.length : Nat) : Int) := by rw [Int.tdiv_eq_ediv_of_nonneg (by omega)]; exact e1
      have et2 : (i : Int).tmod (cs.length : Int) = ((i % cs.length : Nat) : Int) := by rw [Int.tmod_eq_emod_of_nonneg (by omega)]; exact e2
      have et3 : ((i : Int) + 1).tmod (cs.length : Int) = (((i + 1) % cs.length : Nat) : Int) := by rw [Int.tmod_eq_emod_of_nonneg (by omega)]; exact e3
      obtain ⟨b, o, rfl, hc⟩ := hr.2.2.2 (by omega)
      have c1 := hc _ hr1
      have c2 := hc _ hr2
      have h3 := at8_lo cs (i % cs.length)
      have h4 := at8_hi cs (i % cs.length)
      have h5 := at8_lo cs ((i + 1) % cs.length)
      have h6 := at8_hi cs ((i + 1) % cs.length)
      generalize lwN cs i n = LV at *
      generalize at8 cs (i % cs.length) = x at *
      generalize at8 cs ((i + 1) % cs.length) = y at *
      generalize i / cs.length = d at *
      generalize i % cs.length = r at *
      generalize (i + 1) % cs.length = r2 at *
      have g1 : (r : Int) < (cs.length : Int) := by omega
      have g2 : (r2 : Int) < (cs.length : Int) := by omega
      clear hc hr
      by_cases h7 : 200 < n
      · rw [if_pos h7] at HV
        go_enter Tryd.func8, Tryd.ntmps8
        go_wp2
        go_quiet (fail)
        go_wp2
        go_ret
        exact ⟨by rw [HV.out]; rfl, below_drewN (Below.refl _ _) _⟩
      · rw [if_neg h7] at HV
        go_enter Tryd.func8, Tryd.ntmps8
        go_wp2
        go_quiet (fail)
        go_wp2
        go_ret
        exact ⟨by rw [HV.out]; rfl, below_drewN (Below.refl _ _) _⟩
def lwS (cs : List UInt8) : List UInt8 := (List.range 32).map fun i => UInt8.ofNat (lwN cs i 256).toNat
theorem lwS_len (cs : List UInt8) : (lwS cs).length = 32 := by simp [lwS]
theorem lwS_at (cs : List UInt8) {k : Nat} (h : k < 32) : at8 (lwS cs) k = lwN cs k 256 := by
  rw [at8_get (by rw [lwS_len]; exact h)]
  have h1 := lwN_lo cs k 256
  have h2 := lwN_hi cs k 256 (by decide)
  simp only [lwS, List.getElem_map, List.getElem_range, UInt8.toNat_ofNat']
  omega
/-- What a loop that fills 32 bytes from the first one on has laid behind k rounds. -/
def fillS (LS : List UInt8) (k : Nat) : List UInt8 := LS.take k ++ zs (32 - k)
theorem fillS_len {LS : List UInt8} (h : LS.length = 32) {k : Nat} (hk : k ≤ 32) : (fillS LS k).length = 32 := by simp [fillS, zs, h]; omega
theorem fillS_set {LS : List UInt8} (h : LS.length = 32) {k : Nat} (hk : k < 32) : ((fillS LS k).map u8v).set k (.int .u8 (at8 LS k)) = (fillS LS (k + 1)).map u8v := by
  have hl : ((LS.take k).map u8v).length = k := by simp; omega
  have e : u8v (LS[k]'(by omega)) = .int .u8 (at8 LS k) := by rw [at8_get (by omega)]; rfl
  unfold fillS
  rw [List.map_append, List.set_append_right _ _ (by omega), hl, Nat.sub_self, List.take_succ_eq_append_getElem (by omega), List.map_append, List.map_append, List.append_assoc]
  congr 1
  rw [show 32 - k = (32 - (k + 1)) + 1 by omega]
  unfold zs
  rw [List.replicate_succ, List.map_cons, List.set_cons_zero, ← e]
  rfl
theorem fillS_at {LS : List UInt8} (h : LS.length = 32) {k : Nat} (hk : k < 32) : ∃ v, ((fillS LS k).map u8v)[k]? = some v := ⟨_, List.getElem?_eq_getElem (by rw [List.length_map, fillS_len h (by omega)]; exact hk)⟩
set_option maxRecDepth 4000 in
set_option maxHeartbeats 2000000 in
theorem lwStream_c (p : Option Addr) (q : Nat) (cs : List UInt8) (w : World) (hr : Rd w p q cs) (hl : cs.length ≤ 1048576) :
    Calls Tryd.prog 7 #[.slice p cs.length q] w fun e w' => ∃ u, e = .returned (.agg #[u, .int .i64 0, .int .i64 0]) ∧ Own w' w.heap.size u (lwS cs) ∧ Below w.heap.size w w' := by
  have HR : Hid (Rd w p q cs) := hr
  obtain ⟨LS, HLS⟩ : ∃ L, Hid (L = lwS cs) := ⟨_, rfl⟩
  have HLl : Hid (LS.length = 32) := by show _ = _; rw [HLS.out, lwS_len]
  clear hr
  obtain ⟨i0, hi, hz0, hz1, hz2⟩ := info_parts info8
  have A0 := Arr.new w [.slice none 0 0, .int .i64 0, .int .i64 0] 25
  have B0 := alloc_below w (.cells #[.slice none 0 0, .int .i64 0, .int .i64 0] 25)
  have hz : Hid ((w.alloc (.cells #[.slice none 0 0, .int .i64 0, .int .i64 0] 25)).heap.size = w.heap.size + 1) := size_alloc _ _
  go_enter Tryd.func7, Tryd.ntmps7
  go_wp2_with (at_make; refine wpList_make_full _ rfl (.const (.int .i64 32)) (.const (.int .i64 32)) 22 rfl (w.heap.size + 1) 5 i0 (.int .u8 0) 1 Tryd.underlying22 hi hz0 hz1 .i64 .i64 _ _ 32 rfl rfl rfl rfl (by rw [hz2]; decide) (by unfold maxLen; decide) (by rw [hz.out]; exact Nat.le_refl _) ?_; intro w1 hown hgrow; rw [hz.out] at hown; have ho := made_zeros hown; clear hown; replace A0 := A0.other hgrow (fun e => by simp at e); replace B0 := B0.grown hgrow B0.size (fun k hk => by simp at hk); clear hgrow)
  have hg1 : Hid (w.heap.size + 1 < w1.heap.size) := ho.lt _ rfl
  have A1 := Arr.new w1 [.slice (some ⟨w.heap.size + 1, 0, none⟩) 32 32, .int .i64 0, .int .i64 0] 25
  have BL := alloc_below w1 (.cells #[.slice (some ⟨w.heap.size + 1, 0, none⟩) 32 32, .int .i64 0, .int .i64 0] 25)
  replace A0 := A0.stay BL
  replace ho := ho.stay BL
  replace B0 := Below.step B0 BL
  clear BL hi hz0 hz1 hz2
  go_loopw [4] (fun i wr => ∃ k : Nat, k ≤ 32 ∧ i = .int .i64 k ∧ Own wr (w.heap.size + 1) (.slice (some ⟨w.heap.size + 1, 0, none⟩) 32 32) (fillS LS k) ∧ Arr wr w1.heap.size 25 [.slice (some ⟨w.heap.size + 1, 0, none⟩) 32 32, .int .i64 0, .int .i64 0] ∧ Arr wr w.heap.size 25 [.slice none 0 0, .int .i64 0, .int .i64 0] ∧ Below w.heap.size w wr)
    (fun i _ => 32 - (intOf i).toNat)
  case atStart => exact ⟨0, Nat.zero_le _, rfl, ho, A1, A0, B0⟩
  case round =>
    clear ho A1 A0 B0
    obtain ⟨k, hk, rfl, ho, A1, A0, BW⟩ := hrel
    by_cases hlt : k < 32
    · have hI : (k : Int) < 32 := by omega
      have cx := (A1.cell 0).trans (show _ = some _ from rfl)
      have gx := HW.at cx
      have hne := HW.some wr
      have hv0 := lwN_lo cs k 256
      have hv1 : lwN cs k 256 ≤ 255 := by have := lwN_hi cs k 256 (by decide); omega
      have HVA : Hid (lwN cs k 256 = at8 LS k) := by show _ = _; rw [HLS.out, lwS_at cs hlt]
      have KA : Hid (∀ w', Below wr.heap.size wr w' → Calls Tryd.prog 8 #[.slice p cs.length q, .int .i64 (k : Int), .int .i64 256] w' fun e w'' => e = .returned (.int .i64 (lwN cs k 256)) ∧ Below w'.heap.size w' w'') := fun w' hb => lwAt_e p q cs k 256 w' ((HR.out.keep BW).keep hb) hl (by omega) (by decide)
      generalize lwN cs k 256 = va at *
      go_wp2_with fail
      refine wp_region_pick [0, 1, 2, 3, 4] 7 2 2 rfl rfl rfl (by kernel_rfl) (by kernel_rfl) (by kernel_rfl) (by kernel_rfl) ?_
      simp only [opsAt, List.getElem?_toArray, List.getElem?_cons_zero, List.getElem?_cons_succ]
      repeat (go_big_quiet_step (fail))
      refine wpQuiet_nil ?_
      refine wpM_only (i := 5) (by kernel_rfl) ?_
      refine mOp_call rfl (by go_simp) 8 _ #[.slice p cs.length q, .int .i64 (k : Int), .int .i64 256] (fun w => by go_simp) rfl ?_
      rintro _ ⟨s5, rfl⟩
      refine (KA.out _ s5.h).mono ?_
      rintro e w5 ⟨rfl, hb5⟩
      refine ⟨_, rfl, ⟨⟨_, hb5⟩, rfl⟩, ?_⟩
      have hne5 := HW.some w5
      refine wpM_more [6] 1 0 rfl (by kernel_rfl) (by kernel_rfl) (by kernel_rfl) (by kernel_rfl) ?_
      simp only [opsAt, List.getElem?_toArray, List.getElem?_cons_zero, List.getElem?_cons_succ]
      go_simp
      repeat (go_big_quiet_step (fail))
      refine wpQuiet_nil ?_
      refine wpM_end (by kernel_rfl) rfl (by kernel_rfl) (by decide) ?_
      rintro _ ⟨sz, rfl⟩
      simp only [List.drop_succ_cons, List.drop_zero]
      have hbz := Below.step (Below.step s5.h hb5) sz.h
      replace ho := ho.stay hbz
      replace A1 := A1.stay hbz
      replace A0 := A0.stay hbz
      replace BW := Below.step BW hbz
      generalize sz.w = W at *
      clear gx hne hne5 hbz hb5 KA cx
      have how : W.ownsRow (w.heap.size + 1) 5 1 (.slice (some ⟨w.heap.size + 1, 0, none⟩) 32 32) 32 ((fillS LS k).map u8v) := by
        have h := ho
        unfold Own at h
        rw [fillS_len HLl.out hk] at h
        exact h
      obtain ⟨y0, hy0⟩ := fillS_at HLl.out hlt
      have cy := (World.ownsRow.cellAt how k (by omega)).trans hy0
      have fy := World.ownsRow.frozenAt how
      have R1 := (World.ownsRow.stored how k (.int .u8 va)).1
      rw [HVA.out, fillS_set HLl.out hlt] at R1
      have RO : Own (W.setCell ⟨w.heap.size + 1, k, none⟩ (.int .u8 (at8 LS k))) (w.heap.size + 1) (.slice (some ⟨w.heap.size + 1, 0, none⟩) 32 32) (fillS LS (k + 1)) := by
        unfold Own
        rw [fillS_len HLl.out (by omega)]
        exact R1
      rw [← HVA.out] at RO
      have RA1 := A1.setOther (a := ⟨w.heap.size + 1, k, none⟩) (by have := hg1.out; simp; omega) (.int .u8 va)
      have RA0 := A0.setOther (a := ⟨w.heap.size + 1, k, none⟩) (by simp) (.int .u8 va)
      have RB := BW.setCell (p := ⟨w.heap.size + 1, k, none⟩) (Nat.le_succ _) (.int .u8 va)
      clear how R1 ho A1 A0 BW
      go_wp2_with fail
      go_roundw
      case rel => exact ⟨k + 1, by omega, by go_num, RO, RA1, RA0, RB⟩
      case measure => simp [intOf]; omega
    · have e : k = 32 := by omega
      subst e
      rw [show fillS LS 32 = lwS cs by rw [fillS, List.take_of_length_le (by have := HLl.out; omega), ← HLS.out]; simp [zs]] at ho
      have c0 := (A0.cell 0).trans (show _ = some _ from rfl)
      have c1 := (A0.cell 1).trans (show _ = some _ from rfl)
      have c2 := (A0.cell 2).trans (show _ = some _ from rfl)
      have fz := A0.frozen
      have d0 := (A1.cell 0).trans (show _ = some _ from rfl)
      have d1 := (A1.cell 1).trans (show _ = some _ from rfl)
      have d2 := (A1.cell 2).trans (show _ = some _ from rfl)
      go_wp2_with fail
      exact bodyPost_ret (v := .agg #[.slice (some ⟨w.heap.size + 1, 0, none⟩) 32 32, .int .i64 0, .int .i64 0]) (by simp [results, Tryd.results7, go_sem, c0, c1, c2]) rfl ⟨_, rfl, (((ho.set (Nat.lt_succ_self _) _).set (Nat.lt_succ_self _) _).set (Nat.lt_succ_self _) _).lower (Nat.le_succ _), ((BW.setCell (Nat.le_refl _) _).setCell (Nat.le_refl _) _).setCell (Nat.le_refl _) _⟩
end Go.Proofs.YtdemfbbjdnjolaaDoor

/- The contract of lwBig: codes of more than 1048576 bytes are passed by. -/
namespace Go.Proofs.YtdemfbbjdnjolaaDoor
open Go.ChangeShapes Go.WideShapes Go.ChangeAt Go.RowKit

set_option maxRecDepth 4000 in
set_option maxHeartbeats 400000 in
theorem lwBig_yes (a : Option Addr) (n cap : Nat) (w : World) (h : 1048576 < n) :
    Calls Tryd.prog 6 #[.slice a n cap] w fun e w' => e = .returned (.bool true) ∧ w' = w := by
  have h' : (1048576 : Int) < (n : Int) := by omega
  go_enter Tryd.func6, Tryd.ntmps6
  go_wp2
  go_ret
  exact ⟨rfl, rfl⟩
set_option maxRecDepth 4000 in
set_option maxHeartbeats 400000 in
theorem lwBig_no (a : Option Addr) (n cap : Nat) (w : World) (h : n ≤ 1048576) :
    Calls Tryd.prog 6 #[.slice a n cap] w fun e w' => e = .returned (.bool false) ∧ w' = w := by
  have h' : (n : Int) ≤ 1048576 := by omega
  go_enter Tryd.func6, Tryd.ntmps6
  go_wp2
  go_ret
  refine ⟨?_, rfl⟩
  show Ending.returned (.bool (decide _)) = _
  rw [decide_eq_false (by omega)]
end Go.Proofs.YtdemfbbjdnjolaaDoor

/- The contract of laws.lwSame: whether the two slices hold the same bytes. -/
namespace Go.Proofs.YtdemfbbjdnjolaaDoor
open Go.ChangeShapes Go.WideShapes Go.ChangeAt Go.RowKit

set_option maxRecDepth 4000 in
set_option maxHeartbeats 1000000 in
theorem lwSame_c (a b : Option Addr) (ca cb : Nat) (xs bs : List UInt8) (w : World) (hra : Rd w a ca xs) (hrb : Rd w b cb bs) :
    Calls Tryd.prog 12 #[.slice a xs.length ca, .slice b bs.length cb] w fun e w' => e = .returned (.bool (xs == bs)) ∧ w' = w := by
  have e1 := run_str (P := Tryd.prog) hra (src := 22) (dst := 9) (e := 5) Tryd.underlying22 Tryd.underlying5 Tryd.underlying9
  have e2 := run_str (P := Tryd.prog) hrb (src := 22) (dst := 9) (e := 5) Tryd.underlying22 Tryd.underlying5 Tryd.underlying9
  go_enter Tryd.func12, Tryd.ntmps12
  go_wp2
  go_ret
  rw [strB_list, strB_list]
  exact ⟨rfl, rfl⟩
theorem lwSame_yes (a b : Option Addr) (ca cb n m : Nat) (bs : List UInt8) (w : World) (hn : bs.length = n) (hm : bs.length = m) (hra : Rd w a ca bs) (hrb : Rd w b cb bs) :
    Calls Tryd.prog 12 #[.slice a n ca, .slice b m cb] w fun e w' => e = .returned (.bool true) ∧ w' = w := by
  subst hn hm
  refine (lwSame_c a b ca cb bs bs w hra hrb).mono ?_
  rintro e w' ⟨rfl, rfl⟩
  exact ⟨by simp, rfl⟩
end Go.Proofs.YtdemfbbjdnjolaaDoor

/- append(s, x...) of bytes where s lies in a row of its own and x can be read, empty or not, and where the answer lies: in s' row, or in the next new block. -/
namespace Go.Proofs.YtdemfbbjdnjolaaDoor
open Go Go.RowKit

theorem wpList_append_zero {w : World} {ops : Array Oper} {rest : List Oper} {o : Oper} {a : Act} {Q : Exit → Act → World → Prop} (hgd : o.guard = none) (s x : Operand)
    (ho : o.op = .call { callee := .builtin .append, args := #[s, x], argTypes := #[22, 22] }) (b p : Option Addr) (n cap q : Nat) (hs : a.eval s = .slice b n cap) (hn : n ≤ cap) (hx : a.eval x = .slice p 0 q)
    (h : wpList Tryd.prog ops Q rest (a.put o.dst (.slice b n cap)) w) : wpList Tryd.prog ops Q (o :: rest) a w := by
  obtain ⟨i0, hi, hz0, hz1, hz2⟩ := info_parts info8
  have hr : (Builtin.append_ #[22, 22] o.type #[.slice b n cap, .slice p 0 q]).run Tryd.prog w = .ok (.slice b n cap) w := by
    cases p <;> cases b <;> simp [Builtin.append_, run_underlying (P := Tryd.prog) Tryd.underlying22, sizeOf, typeInfo, hi, Builtin.lenOf, hn, Builtin.firstCells, loadCells, loadCellsFrom, storeCells]
  refine wpList_plain hgd fun _ hK => ?_
  unfold Oper.wp execOp
  simp only [ho, resolve, invoke, builtin, Sem.run_bind, Sem.run_pure, Result.andThen_ok, List.map_toArray, List.map_cons, List.map_nil, hs, hx, hr]
  exact hK _ _ h
theorem wpList_append_loc {w : World} {ops : Array Oper} {rest : List Oper} {o : Oper} {a : Act} {Q : Exit → Act → World → Prop} (hgd : o.guard = none) (s x : Operand)
    (ho : o.op = .call { callee := .builtin .append, args := #[s, x], argTypes := #[22, 22] })
    (B : Nat) (v : Value) (xs : List UInt8) (hs : a.eval s = v) (hown : Own w B v xs) (p : Option Addr) (q : Nat) (bs : List UInt8) (hx : a.eval x = .slice p bs.length q) (hr : Rd w p q bs)
    (hl : xs.length + bs.length ≤ 100000000) (hB : B ≤ w.heap.size)
    (h : ∀ v' w', Own w' B v' (xs ++ bs) → w.grownBy w' v.ownBlock → (v'.ownBlock = v.ownBlock ∨ v'.ownBlock = some w.heap.size) → wpList Tryd.prog ops Q rest (a.put o.dst v') w') : wpList Tryd.prog ops Q (o :: rest) a w := by
  by_cases h0 : bs.length = 0
  · have e0 : bs = [] := List.eq_nil_of_length_eq_zero h0
    subst e0
    obtain ⟨pv, qv, rfl, rv⟩ := hown.rd
    exact wpList_append_zero hgd s x ho pv p xs.length qv q hs rv.1 hx (h _ w (by rw [List.append_nil]; exact hown) (World.grownBy.refl _ _) (.inl rfl))
  · refine wpList_append_rd_at hgd s x ho B v xs hs hown p q bs bs.length hx rfl hr (by omega) hl hB ?_
    intro g cap w' ho' hg' hat
    refine h _ w' ho' hg' ?_
    rcases hat with h1 | h1
    · exact .inl (by rw [h1]; rfl)
    · exact .inr (by rw [← h1]; rfl)
end Go.Proofs.YtdemfbbjdnjolaaDoor

