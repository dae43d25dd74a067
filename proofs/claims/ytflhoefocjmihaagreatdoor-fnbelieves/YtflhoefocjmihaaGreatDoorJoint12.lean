/- Pieces of bytes that lie in a row of slices, and the contract of the program's own function over them: impl.joined (all pieces behind one another, in a row of its own). What was there stays. -/
import Derived.Test.YtflhoefocjmihaaGreatDoorJoint11
import Derived.Test.YtflhoefocjmihaaGreatDoorJoint8
import Derived.Test.YtflhoefocjmihaaGreatDoorJoint9
import Derived.Test.YtflhoefocjmihaaGreatDoorWire
import Derived.Test.YtflhoefocjmihaaGreatDoorJoint6
import Derived.Handy
namespace Go.Proofs.YtflhoefocjmihaaGreatDoor
open Go.ChangeShapes Go.WideShapes Go.ChangeAt Go.RowKit

/-- A piece: a slice of bytes. -/
structure Pc where
  p : Option Addr
  q : Nat
  bs : List UInt8
def Pc.val (x : Pc) : Value := .slice x.p x.bs.length x.q
/-- Pieces that lie one behind the other from ⟨b, o⟩ on, each of which can be read. -/
def Pcs (w : World) (b o : Nat) (ps : List Pc) : Prop := ∀ i x, ps[i]? = some x → w.cell? ⟨b, o + i, none⟩ = some x.val ∧ Rd w x.p x.q x.bs
theorem Pcs.keep {w w' : World} {b o : Nat} {ps : List Pc} (h : Pcs w b o ps) (hb : Below w.heap.size w w') : Pcs w' b o ps := fun i x hx =>
  ⟨(hb.cell (p := ⟨b, o + i, none⟩) (World.block_lt_of_cell? w _ (h i x hx).1)).trans (h i x hx).1, (h i x hx).2.keep hb⟩
def flat : List Pc → List UInt8
  | [] => []
  | x :: xs => x.bs ++ flat xs
theorem flat_append (xs ys : List Pc) : flat (xs ++ ys) = flat xs ++ flat ys := by
  induction xs with
  | nil => rfl
  | cons x xs ih => simp [flat, ih]
theorem flat_take {ps : List Pc} {j : Nat} {x : Pc} (h : ps[j]? = some x) : flat (ps.take (j + 1)) = flat (ps.take j) ++ x.bs := by
  obtain ⟨hj, he⟩ := List.getElem?_eq_some_iff.1 h
  rw [List.take_succ_eq_append_getElem hj, flat_append, he]
  simp [flat]
theorem flat_split (ps : List Pc) (j : Nat) : flat ps = flat (ps.take j) ++ flat (ps.drop j) := by
  rw [← flat_append, List.take_append_drop]
theorem flat_le (ps : List Pc) (j : Nat) : (flat (ps.take j)).length ≤ (flat ps).length := by
  rw [flat_split ps j, List.length_append]; omega
/-- What is laid behind k bytes. -/
def fillB (bs : List UInt8) (k : Nat) : List UInt8 := bs.take k ++ zs (bs.length - k)
theorem fillB_zero (bs : List UInt8) : fillB bs 0 = zs bs.length := by simp [fillB]
theorem fillB_all (bs : List UInt8) : fillB bs bs.length = bs := by simp [fillB, zs]
theorem fillB_len (bs : List UInt8) (k : Nat) (h : k ≤ bs.length) : (fillB bs k).length = bs.length := by simp [fillB, zs_len]; omega
theorem fillB_splice (bs : List UInt8) (k : Nat) (cs : List UInt8) (h : k + cs.length ≤ bs.length) (hc : (bs.drop k).take cs.length = cs) :
    splice ((fillB bs k).map u8v) k (cs.map u8v) = (fillB bs (k + cs.length)).map u8v := by
  have hl : ((bs.take k).map u8v).length = k := by simp; omega
  have e : bs.take (k + cs.length) = bs.take k ++ cs := by rw [List.take_add, hc]
  unfold splice fillB
  rw [e, List.map_append, List.map_append, List.map_append, List.take_append_of_le_length (by omega), List.take_of_length_le (by omega), List.drop_append, hl, List.length_map, List.drop_of_length_le (by omega), List.nil_append, List.append_assoc, show k + cs.length - k = cs.length by omega, ← List.map_drop]
  congr 3
  simp [zs]; omega
theorem flat_piece {ps : List Pc} {j : Nat} {x : Pc} (h : ps[j]? = some x) : (flat (ps.take j)).length + x.bs.length ≤ (flat ps).length ∧ ((flat ps).drop (flat (ps.take j)).length).take x.bs.length = x.bs := by
  have h1 := flat_split ps (j + 1)
  rw [flat_take h, List.append_assoc] at h1
  constructor
  · rw [h1]; simp
  · rw [h1, List.drop_left, List.take_left]

/-- Two pieces in a new row. -/
theorem pcs_two (w : World) (x y : Pc) (t : TypeId) (hx : Rd w x.p x.q x.bs) (hy : Rd w y.p y.q y.bs) : Pcs (w.alloc (.cells #[x.val, y.val] t)) w.heap.size 0 [x, y] := by
  have hA := Arr.new w [x.val, y.val] t
  intro i z hz
  rw [Nat.zero_add, hA.cell]
  match i, hz with
  | 0, hz => simp at hz; subst hz; exact ⟨rfl, hx.keep (alloc_below _ _)⟩
  | 1, hz => simp at hz; subst hz; exact ⟨rfl, hy.keep (alloc_below _ _)⟩
  | i + 2, hz => simp at hz
theorem flat_two (x y : Pc) : flat [x, y] = x.bs ++ y.bs := by simp [flat]
theorem pcs_one (w : World) (x : Pc) (t : TypeId) (hx : Rd w x.p x.q x.bs) : Pcs (w.alloc (.cells #[x.val] t)) w.heap.size 0 [x] := by
  have hA := Arr.new w [x.val] t
  intro i z hz
  rw [Nat.zero_add, hA.cell]
  match i, hz with
  | 0, hz => simp at hz; subst hz; exact ⟨rfl, hx.keep (alloc_below _ _)⟩
  | i + 1, hz => simp at hz
theorem pcs_three (w : World) (x y z : Pc) (t : TypeId) (hx : Rd w x.p x.q x.bs) (hy : Rd w y.p y.q y.bs) (hz : Rd w z.p z.q z.bs) : Pcs (w.alloc (.cells #[x.val, y.val, z.val] t)) w.heap.size 0 [x, y, z] := by
  have hA := Arr.new w [x.val, y.val, z.val] t
  intro i v hv
  rw [Nat.zero_add, hA.cell]
  match i, hv with
  | 0, hv => simp at hv; subst hv; exact ⟨rfl, hx.keep (alloc_below _ _)⟩
  | 1, hv => simp at hv; subst hv; exact ⟨rfl, hy.keep (alloc_below _ _)⟩
  | 2, hv => simp at hv; subst hv; exact ⟨rfl, hz.keep (alloc_below _ _)⟩
  | i + 3, hv => simp at hv
theorem flat_one (x : Pc) : flat [x] = x.bs := by simp [flat]
theorem flat_three (x y z : Pc) : flat [x, y, z] = x.bs ++ y.bs ++ z.bs := by simp [flat]
/-- A literal of bytes in a new row. -/
theorem rd_new (w : World) (vs : List Value) (bs : List UInt8) (t : TypeId) (n : Nat) (hv : vs = bs.map u8v) (hn : bs.length = n) (hl : n ≤ 1000) : Rd (w.alloc (.cells vs.toArray t)) (some ⟨w.heap.size, 0, none⟩) n bs := by
  have hA := Arr.new w vs t
  refine ⟨by omega, by unfold maxLen; omega, fun e => by simp at e, fun _ => ⟨_, _, rfl, fun i hi => ?_⟩⟩
  rw [Nat.zero_add, hA.cell, hv, u8v_at hi]
theorem pcs_four (w : World) (x y z v : Pc) (t : TypeId) (hx : Rd w x.p x.q x.bs) (hy : Rd w y.p y.q y.bs) (hz : Rd w z.p z.q z.bs) (hv : Rd w v.p v.q v.bs) : Pcs (w.alloc (.cells #[x.val, y.val, z.val, v.val] t)) w.heap.size 0 [x, y, z, v] := by
  have hA := Arr.new w [x.val, y.val, z.val, v.val] t
  intro i u hu
  rw [Nat.zero_add, hA.cell]
  match i, hu with
  | 0, hu => simp at hu; subst hu; exact ⟨rfl, hx.keep (alloc_below _ _)⟩
  | 1, hu => simp at hu; subst hu; exact ⟨rfl, hy.keep (alloc_below _ _)⟩
  | 2, hu => simp at hu; subst hu; exact ⟨rfl, hz.keep (alloc_below _ _)⟩
  | 3, hu => simp at hu; subst hu; exact ⟨rfl, hv.keep (alloc_below _ _)⟩
  | i + 4, hu => simp at hu
theorem u8_of (n : Nat) (h : n < 256) : u8v (UInt8.ofNat n) = .int .u8 (n : Int) := by
  unfold u8v
  rw [UInt8.toNat_ofNat', Nat.mod_eq_of_lt h]

set_option maxRecDepth 4000 in
set_option maxHeartbeats 1000000 in
theorem joined_c (ps : List Pc) (b o cap : Nat) (w : World) (hp : Pcs w b o ps) (hl : (flat ps).length ≤ 100000) (hn : ps.length ≤ 1000) :
    Calls Tryz.prog 70 #[.slice (some ⟨b, o, none⟩) ps.length cap] w fun e w' => ∃ u, e = .returned u ∧ Own w' w.heap.size u (flat ps) ∧ Below w.heap.size w w' := by
  obtain ⟨i0, hi, hz0, hz1, hz2⟩ := info_parts info8
  have HI : Hid ((Tryz.prog.info? 5).map (·.size) = some 1) := by show _ = _; rw [hi]; simp [hz1]
  have HP : Hid (Pcs w b o ps) := hp
  have HL : Hid ((flat ps).length ≤ 100000) := hl
  clear hp hl
  go_enter Tryz.func70, Tryz.ntmps70
  go_wp2
  go_loop [3, 12] (fun n i => ∃ j : Nat, j ≤ ps.length ∧ i = .int .i64 j ∧ n = .int .i64 ((flat (ps.take j)).length : Nat))
    (fun _ i => ps.length - (intOf i).toNat)
  case atStart => exact ⟨0, Nat.zero_le _, rfl, by simp [flat]⟩
  case round =>
    obtain ⟨j, hj, rfl, rfl⟩ := hrel
    by_cases hlt : j < ps.length
    · obtain ⟨x, hx⟩ : ∃ x, Hid (ps[j]? = some x) := ⟨ps[j], by show _ = _; simp [hlt]⟩
      have hcx := (HP.out j x hx.out).1
      have HF : Hid ((flat (ps.take (j + 1))).length = (flat (ps.take j)).length + x.bs.length) := by show _ = _; rw [flat_take hx.out, List.length_append]
      have hfl : (flat (ps.take (j + 1))).length ≤ 100000 := Nat.le_trans (flat_le ps _) HL.out
      rw [HF.out] at hfl
      unfold Pc.val at hcx
      generalize (flat (ps.take j)).length = m at *
      go_wp2
      go_round
      case rel => exact ⟨j + 1, by omega, by go_num, by rw [HF.out]; go_num⟩
      case measure => simp [intOf]; omega
    · have e : j = ps.length := by omega
      subst e
      rw [List.take_length]
      obtain ⟨fs, hfs⟩ : ∃ fs, Hid (fs = flat ps) := ⟨_, rfl⟩
      rw [← hfs.out] at HL ⊢
      have hfl : fs.length ≤ 100000 := HL.out
      clear hj hlt
      go_wp2_with (at_make; refine wpList_make_full _ rfl (.tmp 21) (.tmp 21) 22 rfl w.heap.size 5 i0 (.int .u8 0) 1 Tryz.underlying22 hi hz0 hz1 .i64 .i64 _ _ fs.length rfl rfl rfl rfl (by rw [hz2]; omega) (by unfold maxLen; omega) (Nat.le_refl _) ?_; intro w1 hown hgrow; have hA1 := (made_zeros hown).arr (zs_len fs.length); have hb1 : Below w.heap.size w w1 := (Below.refl _ _).grown hgrow (Nat.le_refl _) (fun k hk => by simp at hk); clear hown hgrow)
      go_loopw [7, 25] (fun n i wr => ∃ j : Nat, j ≤ ps.length ∧ i = .int .i64 j ∧ n = .int .i64 ((flat (ps.take j)).length : Nat) ∧ Arr wr w.heap.size 5 ((fillB fs (flat (ps.take j)).length).map u8v) ∧ Below w.heap.size w wr)
        (fun _ i _ => ps.length - (intOf i).toNat)
      case atStart => exact ⟨0, Nat.zero_le _, rfl, by simp [flat], by simp only [List.take_zero, flat, List.length_nil]; rw [fillB_zero]; exact hA1, hb1⟩
      case round =>
        clear hA1 hb1
        obtain ⟨j, hj, rfl, rfl, A, BW⟩ := hrel
        by_cases hlt : j < ps.length
        · obtain ⟨x, hx⟩ : ∃ x, Hid (ps[j]? = some x) := ⟨ps[j], by show _ = _; simp [hlt]⟩
          have HP2 : Hid (Pcs wr b o ps) := HP.out.keep BW
          have hcx := (HP2.out j x hx.out).1
          have HR : Hid (Rd wr x.p x.q x.bs) := (HP2.out j x hx.out).2
          have HF : Hid ((flat (ps.take (j + 1))).length = (flat (ps.take j)).length + x.bs.length) := by show _ = _; rw [flat_take hx.out, List.length_append]
          have hfp : (flat (ps.take j)).length + x.bs.length ≤ fs.length := by rw [hfs.out]; exact (flat_piece hx.out).1
          have HC : Hid ((fs.drop (flat (ps.take j)).length).take x.bs.length = x.bs) := by show _ = _; rw [hfs.out]; exact (flat_piece hx.out).2
          have HZ : Hid ((fillB fs (flat (ps.take j)).length).length = fs.length) := fillB_len _ _ (by omega)
          unfold Pc.val at hcx
          generalize (flat (ps.take j)).length = m at *
          have HS : Hid (splice ((fillB fs m).map u8v) m (x.bs.map u8v) = (fillB fs (m + x.bs.length)).map u8v) := fillB_splice fs m x.bs hfp HC.out
          obtain ⟨xp, xq, xb⟩ := x
          simp only at *
          go_wp2_with (refine wpList_copy_splice rfl (.tmp 32) (.tmp 33) 22 22 rfl 5 Tryz.underlying22 HI.out _ _ _ _ _ _ rfl rfl w.heap.size m ((fillB fs m).map u8v) 5 A (xb.map u8v) (by rw [List.length_map]; exact (Nat.min_eq_left (by omega)).symm) (fun hp => ⟨by (rw [List.length_map] at hp; have hne : ¬ (fs.length = m) := (by omega); simp [hne]), HR.out.addr (by simpa using hp)⟩) (by have := HZ.out; rw [List.length_map, List.length_map]; omega) (by intro u hu; obtain ⟨n, -, rfl⟩ := List.mem_map.1 hu; rfl) w.heap.size w BW (Nat.le_refl _) ?_; intro w2 hA2 hb2; replace hA2 : Arr w2 w.heap.size 5 ((fillB fs (m + xb.length)).map u8v) := by (have h := hA2.out; rw [HS.out] at h; exact h))
          all_goals
            go_roundw
            case rel => exact ⟨j + 1, by omega, by go_num, by rw [HF.out]; go_num, by rw [HF.out]; exact hA2, hb2⟩
            case measure => simp [intOf]; omega
        · have e : j = ps.length := by omega
          subst e
          rw [List.take_length, ← hfs.out, fillB_all] at A
          have RO := Arr.own (B := w.heap.size) A (Nat.le_refl _) (by omega)
          go_wp2
          go_ret
          exact ⟨_, rfl, by rw [← hfs.out]; exact RO, BW⟩

set_option maxRecDepth 4000 in
set_option maxHeartbeats 1000000 in
theorem l1Join_c (ps : List Pc) (b o cap : Nat) (w : World) (hp : Pcs w b o ps) (hl : (flat ps).length ≤ 100000) (hn : ps.length ≤ 1000) :
    Calls Tryz.prog 104 #[.slice (some ⟨b, o, none⟩) ps.length cap] w fun e w' => ∃ u, e = .returned u ∧ Own w' w.heap.size u (flat ps) ∧ Below w.heap.size w w' := by
  have HP : Hid (Pcs w b o ps) := hp
  have HL : Hid ((flat ps).length ≤ 100000) := hl
  have O1 := none_own8 w w.heap.size (Nat.le_refl _)
  have BW := alloc_below w (.cells #[] 5)
  clear hp hl
  go_enter Tryz.func104, Tryz.ntmps104
  go_wp2
  go_loopw [3, 4] (fun v i wr => ∃ j : Nat, j ≤ ps.length ∧ i = .int .i64 j ∧ Own wr w.heap.size v (flat (ps.take j)) ∧ Below w.heap.size w wr)
    (fun _ i _ => ps.length - (intOf i).toNat)
  case atStart => exact ⟨0, Nat.zero_le _, rfl, O1, BW⟩
  case round =>
    clear O1 BW
    obtain ⟨j, hj, rfl, ho, BW⟩ := hrel
    obtain ⟨po, qo, rfl, -⟩ := ho.rd
    by_cases hlt : j < ps.length
    · have hI : (j : Int) < (ps.length : Int) := by omega
      obtain ⟨x, hx⟩ : ∃ x, Hid (ps[j]? = some x) := ⟨ps[j], by show _ = _; simp [hlt]⟩
      have HP2 : Hid (Pcs wr b o ps) := HP.out.keep BW
      have hcx := (HP2.out j x hx.out).1
      have HR : Hid (Rd wr x.p x.q x.bs) := (HP2.out j x hx.out).2
      have HF : Hid (flat (ps.take (j + 1)) = flat (ps.take j) ++ x.bs) := flat_take hx.out
      have HT : Hid ((flat (ps.take j)).length + x.bs.length ≤ 100000) := by have h := (flat_piece hx.out).1; have := HL.out; show _ ≤ _; omega
      unfold Pc.val at hcx
      obtain ⟨xp, xq, xb⟩ := x
      simp only at *
      have HO : Hid (Own wr w.heap.size (.slice po (flat (ps.take j)).length qo) (flat (ps.take j))) := ho
      obtain ⟨fs, hfs⟩ : ∃ fs, Hid (fs = flat (ps.take j)) := ⟨_, rfl⟩
      rw [← hfs.out] at HO HF HT ⊢
      clear ho
      have hOw := HO.out
      go_wp2_with (at_builtin; refine wpList_append_rd rfl (.tmp 12) (.tmp 16) rfl w.heap.size _ fs rfl hOw xp xq xb rfl HR.out (by have := HT.out; omega) BW.size ?_; intro v2 w2 k2 hg2)
      have BW2 := BW.grown hg2 BW.size (fun k hk => hOw.ge k hk)
      rw [← HF.out] at k2
      clear hOw HO hg2 HR HP2 hcx
      go_roundw
      case rel => exact ⟨j + 1, by omega, by go_num, k2, BW2⟩
      case measure => simp [intOf]; omega
    · have e : j = ps.length := by omega
      subst e
      rw [List.take_length] at ho ⊢
      go_wp2
      go_ret
      exact ⟨_, rfl, ho, BW⟩

theorem flat_four (x y z v : Pc) : flat [x, y, z, v] = x.bs ++ y.bs ++ z.bs ++ v.bs := by simp [flat]
end Go.Proofs.YtflhoefocjmihaaGreatDoor

/- The contracts of the wire in the specification: l6Fault, MsgFault, l6Pack, PackMsg, l6PackAll, PackMsgs: code and bytes, at every argument. What was there stays. -/
namespace Go.Proofs.YtflhoefocjmihaaGreatDoor
open Go.ChangeShapes Go.WideShapes Go.ChangeAt Go.RowKit

def pmL (a : MsgD) : List UInt8 := if faultW a.1 a.2.length = 0 then packW a.1 a.2 else []
theorem pmL_len (a : MsgD) : (pmL a).length ≤ 1048576 := by
  unfold pmL; split
  · rename_i h; have := (faultW_zero h).2; rw [packW_len]; omega
  · simp


end Go.Proofs.YtflhoefocjmihaaGreatDoor

/- The contract of bytes.Clone: a copy in a row of its own. What was there stays. -/
namespace Go.Proofs.YtflhoefocjmihaaGreatDoor
open Go.ChangeShapes Go.WideShapes Go.ChangeAt Go.RowKit

set_option maxRecDepth 4000 in
set_option maxHeartbeats 1000000 in
theorem bytesClone_c (p : Option Addr) (q : Nat) (bs : List UInt8) (w : World) (hr : Rd w p q bs) (hl : bs.length ≤ 1000000) :
    Calls Tryz.prog 37 #[.slice p bs.length q] w fun e w' => ∃ u, e = .returned u ∧ Own w' w.heap.size u bs ∧ Below w.heap.size w w' := by
  cases p with
  | none =>
    have hq := hr.2.2.1 rfl
    have hb : bs = [] := List.eq_nil_of_length_eq_zero (by have := hr.1; omega)
    subst hb hq
    have hnil : ∀ w, (Go.binOp .eql 22 (.slice none 0 0) (.slice none 0 0)).run Tryz.prog w = .ok (.bool true) w := by intro w; kernel_rfl
    go_enter Tryz.func37, Tryz.ntmps37
    go_wp2
    go_ret
    exact ⟨_, rfl, Own_nil _ _, Below.refl _ _⟩
  | some ad =>
    have hnil : ∀ w, (Go.binOp .eql 22 (.slice (some ad) bs.length q) (.slice none 0 0)).run Tryz.prog w = .ok (.bool false) w := by intro w; kernel_rfl
    have hr2 := hr.keep (alloc_below w (Obj.cells #[] 5))
    have ho := none_own8 w w.heap.size (Nat.le_refl _)
    go_enter Tryz.func37, Tryz.ntmps37
    go_wp2_with (at_builtin; refine wpList_append_rd rfl (.tmp 5) (.tmp 6) rfl w.heap.size _ [] rfl ho (some ad) q bs rfl hr2 (by simp; omega) (by simp) ?_; intro v' w' ho' hg')
    have RB := (alloc_below w (Obj.cells #[] 5)).grown hg' (by simp) (fun k hk => ho.ge k hk)
    go_ret
    exact ⟨_, rfl, ho', RB⟩
end Go.Proofs.YtflhoefocjmihaaGreatDoor

