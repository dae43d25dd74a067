/- The contracts of blocks in the specification: l6Blocks, PackBlocks, l6Split, UnpackBlocks: code and bytes or blocks, at every argument. What was there stays. -/
import Derived.Test.YtiabacnmmojfjaaJoint6
import Derived.Test.YtiabacnmmojfjaaJoint12
import Derived.Test.YtiabacnmmojfjaaWire
import Derived.Test.YtiabacnmmojfjaaPickG
import Derived.Deep.AppendLies
import Derived.Test.YtiabacnmmojfjaaCopy
import Derived.Test.YtiabacnmmojfjaaJoint7
import Derived.Test.YtiabacnmmojfjaaJoint4
import Derived.Test.YtiabacnmmojfjaaMsgC
import Derived.Test.YtiabacnmmojfjaaJoint11
namespace Go.Proofs.Ytiabacnmmojfjaa
open Go.ChangeShapes Go.WideShapes Go.ChangeAt Go.RowKit

set_option maxRecDepth 4000 in
set_option maxHeartbeats 1000000 in
theorem l6Blocks_c (l : List BlkD) (p : Option Addr) (q : Nat) (w : World) (hr : RdL bytC w p q l) (h2 : (blksN l).length ≤ 1000000) :
    Calls Try.prog 70 #[.slice p l.length q] w fun e w' => ∃ u, e = .returned u ∧ Own w' w.heap.size u (blksN l) ∧ Below w.heap.size w w' := by
  have HR : Hid (RdL bytC w p q l) := hr
  have H2 : Hid ((blksN l).length ≤ 1000000) := h2
  have hq1 : l.length ≤ q := hr.1
  have hq2 : q ≤ 2 ^ 63 - 1 := hr.2.1
  have O1 := none_own8 w w.heap.size (Nat.le_refl _)
  have BW := alloc_below w (.cells #[] 5)
  clear hr h2
  go_enter Try.func70, Try.ntmps70
  go_wp2
  go_loopw [3, 4] (fun v i wr => ∃ j : Nat, j ≤ l.length ∧ i = .int .i64 j ∧ Own wr w.heap.size v (blksN (l.take j)) ∧ Below w.heap.size w wr)
    (fun _ i _ => l.length - (intOf i).toNat)
  case atStart => exact ⟨0, Nat.zero_le _, rfl, O1, BW⟩
  case round =>
    clear O1 BW
    obtain ⟨j, hj, rfl, ho, BW⟩ := hrel
    obtain ⟨po, qo, rfl, -⟩ := ho.rd
    by_cases hlt : j < l.length
    · have hI : (j : Int) < (l.length : Int) := by omega
      obtain ⟨b, o, e1, hc⟩ := HR.out.2.2.2 (by omega)
      subst e1
      obtain ⟨a, ha⟩ : ∃ a, l[j]? = some a := ⟨l[j], by simp [hlt]⟩
      obtain ⟨us, hrep, hcell⟩ := hc j a ha
      obtain ⟨pa, qa, rfl, ra⟩ := blk_rep hrep
      have c0 := hcell 0 _ rfl
      rw [show bytC.n = 1 from rfl, Nat.add_zero, Nat.mul_one] at c0
      have hb0 := World.block_lt_of_cell? w _ c0
      replace c0 := cell_keep c0 BW
      have HT : Hid (blksN (l.take (j + 1)) = blksN (l.take j) ++ blkW a) := blksN_take ha
      have HLe : Hid ((blksN (l.take j)).length + (blkW a).length ≤ 1000000) := by have h := blksN_le l (j + 1); rw [HT.out, List.length_append] at h; have := H2.out; show _ ≤ _; omega
      have HBl : Hid ((blkW a).length = a.length + 1) := blkW_len a
      obtain ⟨fs, hfs⟩ : ∃ fs, Hid (fs = blksN (l.take j)) := ⟨_, rfl⟩
      rw [← hfs.out] at ho HT HLe ⊢
      have HRA : Hid (Rd w pa qa a) := ra
      have hM : Hid (((a.length : Int) % 256) = ((mark8 (a.length : Int)).toNat : Int)) := (mark8_nat _).symm
      have g0 := Gen.low_cell (B := w.heap.size) c0 hb0
      have hne := Gen.low_some w.heap.size wr
      clear hc hcell hrep c0 ra
      go_wp2_with fail
      refine Gen.wp_region_pick (Gen.low_pre w.heap.size) [0, 1, 2, 3, 4, 5, 6, 9, 10, 11, 12] 13 2 2 rfl rfl rfl (by kernel_rfl) (by kernel_rfl) (by kernel_rfl) (by kernel_rfl) ?_
      simp only [opsAt, List.getElem?_toArray, List.getElem?_cons_zero, List.getElem?_cons_succ]
      repeat (go_big_quiet_step (fail))
      refine wpQuiet_nil ?_
      clear g0 hne
      refine Gen.wpM_only (i := 7) (by kernel_rfl) ?_
      refine Gen.mOp_make rfl (by go_simp) ?_
      rintro _ ⟨n1, rfl⟩
      have B1 : Below w.heap.size wr (wr.drewN n1) := (Gen.low_pre w.heap.size).drewN _ _
      have hg1 : wr.grownBy (wr.drewN n1) none := grownBy_drewN wr n1 none
      replace ho := ho.other hg1 (fun _ _ e => by cases e)
      replace BW := BW.trans B1
      generalize wr.drewN n1 = V1 at *
      have R1 := rd_one V1 (mark8 (a.length : Int)) 5 _ hM.out
      refine ⟨.slice (some ⟨V1.heap.size, 0, none⟩) 1 1, V1.alloc (.cells #[.int .u8 ((a.length : Int) % 256)] 5), by go_simp, ⟨⟨_, (Below.refl _ _).alloc BW.size _⟩, rfl⟩, ?_⟩
      replace ho := ho.stay (alloc_below V1 (.cells #[.int .u8 ((a.length : Int) % 256)] 5))
      replace BW := BW.alloc BW.size (.cells #[.int .u8 ((a.length : Int) % 256)] 5)
      generalize V1.alloc (.cells #[.int .u8 ((a.length : Int) % 256)] 5) = V2 at *
      generalize V1.heap.size = g1 at *
      clear B1 hg1
      refine Gen.wpM_only (i := 8) (by kernel_rfl) ?_
      refine Gen.mOp_list rfl (by go_simp) (by kernel_rfl) ?_
      rintro _ ⟨n2, rfl⟩
      have B2 : Below w.heap.size V2 (V2.drewN n2) := (Gen.low_pre w.heap.size).drewN _ _
      have hg2 : V2.grownBy (V2.drewN n2) none := grownBy_drewN V2 n2 none
      replace ho := ho.other hg2 (fun _ _ e => by cases e)
      replace R1 := R1.other hg2 (fun _ _ _ e => by cases e)
      replace BW := BW.trans B2
      generalize V2.drewN n2 = V3 at *
      refine wpList_append_rd rfl (.tmp 12) (.tmp 19) rfl w.heap.size _ fs rfl ho _ 1 [mark8 (a.length : Int)] rfl R1 (by have := HLe.out; have := HBl.out; simp; omega) BW.size ?_
      intro v4 w4 ho4 hg4
      have B4 := (Below.refl w.heap.size V3).grown hg4 BW.size (fun k hk => ho.ge k hk)
      refine ⟨rfl, B4, ?_⟩
      replace BW := BW.trans B4
      obtain ⟨p4, q4, rfl, -⟩ := ho4.rd
      clear hg4 ho R1 B2 hg2 B4
      refine Gen.wpM_end (by kernel_rfl) rfl (by kernel_rfl) (by decide) ?_
      rintro _ ⟨n5, rfl⟩
      have B5 : Below w.heap.size w4 (w4.drewN n5) := (Gen.low_pre w.heap.size).drewN _ _
      have hg5 : w4.grownBy (w4.drewN n5) none := grownBy_drewN w4 n5 none
      replace ho4 := ho4.other hg5 (fun _ _ e => by cases e)
      replace BW := BW.trans B5
      generalize w4.drewN n5 = V5 at *
      clear hg5 B5
      have RA := HRA.out.keep BW
      simp only [List.drop_succ_cons, List.drop_zero]
      have HE : Hid (blksN (l.take (j + 1)) = (fs ++ [mark8 (a.length : Int)]) ++ a) := by rw [HT.out]; show _ = _; simp [blkW]
      have HL : Hid ((fs ++ [mark8 (a.length : Int)]).length + a.length ≤ 1000000) := by have := HLe.out; have := HBl.out; show _ ≤ _; simp; omega
      generalize fs ++ [mark8 (a.length : Int)] = gs at *
      go_wp2_with (at_builtin; go_loud (refine wpList_append_rd rfl (.tmp 20) (.tmp 24) rfl w.heap.size _ gs rfl ho4 pa qa a rfl RA (by have := HL.out; omega) BW.size ?_); intro v6 w6 ho6 hg6)
      have B6 := BW.grown hg6 BW.size (fun k hk => ho4.ge k hk)
      rw [← HE.out] at ho6
      clear ho4 hg6 RA BW
      go_roundw
      case rel => exact ⟨j + 1, by omega, by go_num, ho6, B6⟩
      case measure => simp [intOf]; omega
    · have e : j = l.length := by omega
      subst e
      rw [List.take_length] at ho ⊢
      go_wp2
      go_ret
      exact ⟨_, rfl, ho, BW⟩

theorem blksN_bound : ∀ (l : List BlkD), (∀ b ∈ l, b.length ≤ 120) → (blksN l).length ≤ 121 * l.length
  | [], _ => by simp [blksN]
  | a :: m, h => by
    rw [blksN_cons, List.length_append, blkW_len, List.length_cons]
    have h2 := h a List.mem_cons_self
    have h3 := blksN_bound m fun b hb => h b (List.mem_cons_of_mem _ hb)
    omega
theorem pbC_many {l : List BlkD} (h : ¬ l.length ≤ 8) : pbC l = 2 := by rw [pbC, if_neg (fun k => h k.1)]
theorem pbC_big {l : List BlkD} (h : okBl l = false) : pbC l = 2 := by rw [pbC, if_neg (fun k => by rw [h] at k; exact absurd k.2.1 (by decide))]
theorem pbC_long {l : List BlkD} (h : ¬ (blksN l).length ≤ 160) : pbC l = 2 := by rw [pbC, if_neg (fun k => h k.2.2)]
theorem pbL_none {l : List BlkD} (h : pbC l = 2) : pbL l = [] := by rw [pbL, if_neg (by rw [h]; decide)]



theorem ubC_many {data : List UInt8} (h : ¬ data.length ≤ 160) : ubC data = 2 ∧ ubL data = [] := by rw [ubC, ubL, if_neg h, if_neg h]; exact ⟨rfl, rfl⟩
theorem ubC_none {data : List UInt8} (h : data.length ≤ 160) (h2 : splitR data 0 [] = none) : ubC data = 5 ∧ ubL data = [] := by rw [ubC, ubL, if_pos h, if_pos h, h2]; exact ⟨rfl, rfl⟩
theorem ubC_some {data : List UInt8} {r : List BlkD} (h : data.length ≤ 160) (h2 : splitR data 0 [] = some r) : ubC data = 0 ∧ ubL data = r := by rw [ubC, ubL, if_pos h, if_pos h, h2]; exact ⟨rfl, rfl⟩

theorem blksN_sum : ∀ (l : List BlkD), sumB l ≤ (blksN l).length
  | [] => by simp [sumB]
  | a :: l => by
    have h := blksN_sum l
    rw [blksN_cons, List.length_append, blkW_len]
    simp only [sumB, List.map_cons, List.sum_cons] at h ⊢
    omega
theorem ubL_sum (data : List UInt8) : sumB (ubL data) ≤ 1048576 := by
  unfold ubL
  split
  · rename_i h
    cases hs : splitR data 0 [] with
    | none => simp [sumB]
    | some r =>
      have h2 := (pack_split data data.length 0 [] r (by omega) (Nat.zero_le _) (by simp [blksN]) (by decide) (fun b hb => by cases hb) hs).1
      have h3 := blksN_sum r
      rw [h2] at h3
      simp only [Option.getD_some]
      omega
  · simp [sumB]
end Go.Proofs.Ytiabacnmmojfjaa

/- The contracts of SameBytes and of what it calls, in the specification and in the program: both answer whether the two slices hold the same bytes. -/
namespace Go.Proofs.Ytiabacnmmojfjaa
open Go.ChangeShapes Go.WideShapes Go.ChangeAt Go.RowKit

def sameB (a b : List UInt8) : Bool := a == b





end Go.Proofs.Ytiabacnmmojfjaa

/- The contracts of the wire in the specification: l6Fault, MsgFault, l6Pack, PackMsg, l6PackAll, PackMsgs: code and bytes, at every argument. What was there stays. -/
namespace Go.Proofs.Ytiabacnmmojfjaa
open Go.ChangeShapes Go.WideShapes Go.ChangeAt Go.RowKit
set_option maxRecDepth 4000 in
set_option maxHeartbeats 400000 in
theorem l6Fault_c (b o n q : Nat) (p : Option Addr) (k : Int) (w : World) (c0 : w.cell? ⟨b, o, none⟩ = some (.int .i64 k)) (c1 : w.cell? ⟨b, o + 1, none⟩ = some (.slice p n q)) :
    Calls Try.prog 55 #[.pointer (some ⟨b, o, none⟩)] w fun e w' => e = .returned (.int .i64 (faultW k n)) ∧ w' = w := by
  cases hk : inB k 0 255
  · rw [show faultW k n = 3 by simp [faultW, hk]]
    go_enter Try.func55, Try.ntmps55
    go_wp2_with fail
    refine (l1In_c _ _ _ _).mono ?_
    rintro e w' ⟨rfl, rfl⟩
    rw [hk]
    go_wp2
    go_ret
    exact ⟨rfl, rfl⟩
  · by_cases hn : n ≤ 160
    · rw [show faultW k n = 0 by simp [faultW, hk, hn]]
      have hnI : ¬ (160 < (n : Int)) := by omega
      go_enter Try.func55, Try.ntmps55
      go_wp2_with fail
      refine (l1In_c _ _ _ _).mono ?_
      rintro e w' ⟨rfl, rfl⟩
      rw [hk]
      go_wp2
      go_ret
      exact ⟨rfl, rfl⟩
    · rw [show faultW k n = 2 by simp [faultW, hk, hn]]
      have hnI : 160 < (n : Int) := by omega
      go_enter Try.func55, Try.ntmps55
      go_wp2_with fail
      refine (l1In_c _ _ _ _).mono ?_
      rintro e w' ⟨rfl, rfl⟩
      rw [hk]
      go_wp2
      go_ret
      exact ⟨rfl, rfl⟩

def pmL (a : MsgD) : List UInt8 := if faultW a.1 a.2.length = 0 then packW a.1 a.2 else []
theorem pmL_len (a : MsgD) : (pmL a).length ≤ 1048576 := by
  unfold pmL; split
  · rename_i h; have := (faultW_zero h).2; rw [packW_len]; omega
  · simp


end Go.Proofs.Ytiabacnmmojfjaa

/- Regions that draw their order in which an append (it may write in an old row) stands ahead of one operation that needs no world (an address): that one is taken first, the append and what waits for it come at the end, each alone. Beside Pick.lean. No program in it. -/
namespace Go.Proofs.Ytiabacnmmojfjaa
open Go Go.RowKit

section
variable {P : Program} {ops : Array Oper} {md : Region.Mode} {Q' : Exit → Act → World → Prop} {last m : Nat}

/-- These come up one behind the other, each alone, and nothing is left. -/
def okCh (md : Region.Mode) (ops : Array Oper) : Array Bool → List Nat → Bool
  | L, [] => (Region.ready md ops L).isEmpty
  | L, j :: js => (Region.ready md ops L == [j]) && ((ops[j]?).isSome && okCh md ops (L.setIfInBounds j true) js)
theorem wpAny_chainL : ∀ (js : List Nat) (L : Array Bool) (a : Act) (w : World), okCh md ops L js = true → wpList P ops Q' (opsAt ops js) a w → wpAny P md ops Q' js.length L a w
  | [], L, a, w, hB, h => ⟨by simpa [okCh] using hB, by simpa [opsAt, wpList] using h⟩
  | j :: js, L, a, w, hB, h => by
    simp only [okCh, Bool.and_eq_true, beq_iff_eq] at hB
    obtain ⟨hr, hs, hB'⟩ := hB
    obtain ⟨o, h0⟩ := Option.isSome_iff_exists.1 hs
    have ho : opsAt ops (j :: js) = o :: opsAt ops js := by simp only [opsAt, h0]
    rw [ho] at h
    refine ⟨fun e => (by rw [hr] at e; cases e), fun i hi => ?_⟩
    rw [hr] at hi
    have hij := List.mem_singleton.1 hi
    subst hij
    have hrec := fun a' w' => wpAny_chainL js (L.setIfInBounds i true) a' w' hB'
    unfold wpOp
    simp only [h0]
    unfold wpList at h
    split
    · rename_i hw
      rw [if_pos hw] at h
      rcases h with h | h
      · exact .inl (Oper.wp_mono (fun a' w' hh => hrec a' w' hh) h)
      · exact .inr h
    · rename_i hw
      rw [if_neg hw] at h
      exact hrec _ _ h
theorem wpM_endL {L : Array Bool} {a : Act} {V : World} (js : List Nat) (hm : m = js.length + 1) (hB : okCh md ops L (last :: js) = true) (h : ∀ w, (∃ s : HW V, w = s.w) → wpList P ops Q' (opsAt ops (last :: js)) a w) : wpM P md ops Q' last m 0 L a V := by
  have hr : Region.ready md ops L = [last] := by
    simp only [okCh, Bool.and_eq_true, beq_iff_eq] at hB
    exact hB.1
  refine ⟨fun i hi => by rw [hr] at hi; exact List.mem_singleton.1 hi, fun w hw => ?_⟩
  subst hm
  exact wpAny_chainL (last :: js) L a w hB (h w hw)
/-- The region: number j first (it needs no world), these quiet operations, then k more ahead of the chain of m. -/
theorem wp_region_pickW {id : Nat} {a : Act} {w : World} (j : Nat) {oj : Oper} (v : Value) (hj : ops[j]? = some oj) (is : List Nat) (last k m : Nat) (hk : last = is.length + k) (hn : ops.size = last + m + 1) (hm : P.follows .mixedOrders = true) (hs : Region.noSelect ops = true)
    (hfj : Region.free .any ops (Array.replicate ops.size false) j = true) (hrj : (Region.ready .any ops (Array.replicate ops.size false)).contains j = true) (hQ : ∀ c a w, Q' (.panic c) (a.put oj.dst v) w → Q' (.panic c) a w) (hy : Yields P ops oj v a)
    (hlast : waitsT .any ops last = true) (hB : okSeq .any ops last ((Array.replicate ops.size false).setIfInBounds j true) is = true) (hp : (opsAt ops is).all plainB = true)
    (h : wpQuiet P ops (fun w' => ∃ s : HW w, w' = s.w) (fun a' => wpM P .any ops Q' last m k (setAll ((Array.replicate ops.size false).setIfInBounds j true) is) a' w) (opsAt ops is) (a.put oj.dst v)) : (Code.region id ops true).wp P Q' a w := by
  have h1 := wpM_pick (Q' := Q') (m := m) hlast hs k is ((Array.replicate ops.size false).setIfInBounds j true) (a.put oj.dst v) hB hp h
  refine wp_region_any hm ?_
  have h2 := wpAny_of_M (is.length + k) _ (a.put oj.dst v) w { w with drawn := w.drawn + 1 } ⟨⟨w.drew, (Below.refl _ _).drew⟩, rfl⟩ h1
  rw [← hk] at h2
  rw [hn]
  rw [hn] at hfj hrj h2
  exact wpAny_take hj hs hfj hrj hQ hy h2
end
end Go.Proofs.Ytiabacnmmojfjaa

