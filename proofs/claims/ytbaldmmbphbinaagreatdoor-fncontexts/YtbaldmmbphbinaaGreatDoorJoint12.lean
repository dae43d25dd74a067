/- The contracts of the wire in the specification: l6Fault, MsgFault, l6Pack, PackMsg, l6PackAll, PackMsgs: code and bytes, at every argument. What was there stays. -/
import Derived.Test.YtbaldmmbphbinaaGreatDoorJoint10
import Derived.Test.YtbaldmmbphbinaaGreatDoorJoint8
import Derived.Test.YtbaldmmbphbinaaGreatDoorJoint9
import Derived.Test.YtbaldmmbphbinaaGreatDoorJoint2
import Derived.Test.YtbaldmmbphbinaaGreatDoorJoint6
import Derived.Test.YtbaldmmbphbinaaGreatDoorJoint7
import Derived.Deep.AppendLies
namespace Go.Proofs.YtbaldmmbphbinaaGreatDoor
open Go.ChangeShapes Go.WideShapes Go.ChangeAt Go.RowKit

def pmL (a : MsgD) : List UInt8 := if faultW a.1 a.2.length = 0 then packW a.1 a.2 else []
theorem pmL_len (a : MsgD) : (pmL a).length ≤ 1048576 := by
  unfold pmL; split
  · rename_i h; have := (faultW_zero h).2; rw [packW_len]; omega
  · simp


end Go.Proofs.YtbaldmmbphbinaaGreatDoor

/- The contracts of blocks in the specification: l6Blocks, PackBlocks, l6Split, UnpackBlocks: code and bytes or blocks, at every argument. What was there stays. -/
namespace Go.Proofs.YtbaldmmbphbinaaGreatDoor
open Go.ChangeShapes Go.WideShapes Go.ChangeAt Go.RowKit

set_option maxRecDepth 4000 in
set_option maxHeartbeats 1000000 in
theorem l6Blocks_c (l : List BlkD) (p : Option Addr) (q : Nat) (w : World) (hr : RdL bytC w p q l) (h2 : (blksN l).length ≤ 1000000) :
    Calls Tryz.prog 67 #[.slice p l.length q] w fun e w' => ∃ u, e = .returned u ∧ Own w' w.heap.size u (blksN l) ∧ Below w.heap.size w w' := by
  have HR : Hid (RdL bytC w p q l) := hr
  have H2 : Hid ((blksN l).length ≤ 1000000) := h2
  have hq1 : l.length ≤ q := hr.1
  have hq2 : q ≤ 2 ^ 63 - 1 := hr.2.1
  have O1 := none_own8 w w.heap.size (Nat.le_refl _)
  have BW := alloc_below w (.cells #[] 5)
  clear hr h2
  go_enter Tryz.func67, Tryz.ntmps67
  go_wp2
  go_loopw [3, 4] (fun v i wr => ∃ j : Nat, j ≤ l.length ∧ i = .int .i64 j ∧ Own wr w.heap.size v (blksN (l.take j)) ∧ Below w.heap.size w wr)
    (fun _ i _ => l.length - (intOf i).toNat)
  case atStart => exact ⟨0, Nat.zero_le _, rfl, O1, BW⟩
  case round =>
    clear O1 BW
    obtain ⟨j, hj, rfl, ho, BW⟩ := hrel
    obtain ⟨po, qo, rfl, -⟩ := ho.rd
    by_cases hlt : j < l.length
    · have hI : (j : Int) < (l.length : Int) := by omega
      obtain ⟨b, o, e1, hc⟩ := HR.out.2.2.2 (by omega)
      subst e1
      obtain ⟨a, ha⟩ : ∃ a, l[j]? = some a := ⟨l[j], by simp [hlt]⟩
      obtain ⟨us, hrep, hcell⟩ := hc j a ha
      obtain ⟨pa, qa, rfl, ra⟩ := blk_rep hrep
      have c0 := hcell 0 _ rfl
      rw [show bytC.n = 1 from rfl, Nat.add_zero, Nat.mul_one] at c0
      have hb0 := World.block_lt_of_cell? w _ c0
      replace c0 := cell_keep c0 BW
      have HT : Hid (blksN (l.take (j + 1)) = blksN (l.take j) ++ blkW a) := blksN_take ha
      have HLe : Hid ((blksN (l.take j)).length + (blkW a).length ≤ 1000000) := by have h := blksN_le l (j + 1); rw [HT.out, List.length_append] at h; have := H2.out; show _ ≤ _; omega
      have HBl : Hid ((blkW a).length = a.length + 1) := blkW_len a
      obtain ⟨fs, hfs⟩ : ∃ fs, Hid (fs = blksN (l.take j)) := ⟨_, rfl⟩
      rw [← hfs.out] at ho HT HLe ⊢
      have HRA : Hid (Rd w pa qa a) := ra
      have hM : Hid (((a.length : Int) % 256) = ((mark8 (a.length : Int)).toNat : Int)) := (mark8_nat _).symm
      have g0 := Gen.low_cell (B := w.heap.size) c0 hb0
      have hne := Gen.low_some w.heap.size wr
      clear hc hcell hrep c0 ra
      go_wp2_with fail
      refine Gen.wp_region_pick (Gen.low_pre w.heap.size) [0, 1, 2, 3, 4, 5, 6, 9, 10, 11, 12] 13 2 2 rfl rfl rfl (by kernel_rfl) (by kernel_rfl) (by kernel_rfl) (by kernel_rfl) ?_
      simp only [opsAt, List.getElem?_toArray, List.getElem?_cons_zero, List.getElem?_cons_succ]
      repeat (go_big_quiet_step (fail))
      refine wpQuiet_nil ?_
      clear g0 hne
      refine Gen.wpM_only (i := 7) (by kernel_rfl) ?_
      refine Gen.mOp_make rfl (by go_simp) ?_
      rintro _ ⟨n1, rfl⟩
      have B1 : Below w.heap.size wr (wr.drewN n1) := (Gen.low_pre w.heap.size).drewN _ _
      have hg1 : wr.grownBy (wr.drewN n1) none := grownBy_drewN wr n1 none
      replace ho := ho.other hg1 (fun _ _ e => by cases e)
      replace BW := BW.trans B1
      generalize wr.drewN n1 = V1 at *
      have R1 := rd_one V1 (mark8 (a.length : Int)) 5 _ hM.out
      refine ⟨.slice (some ⟨V1.heap.size, 0, none⟩) 1 1, V1.alloc (.cells #[.int .u8 ((a.length : Int) % 256)] 5), by go_simp, ⟨⟨_, (Below.refl _ _).alloc BW.size _⟩, rfl⟩, ?_⟩
      replace ho := ho.stay (alloc_below V1 (.cells #[.int .u8 ((a.length : Int) % 256)] 5))
      replace BW := BW.alloc BW.size (.cells #[.int .u8 ((a.length : Int) % 256)] 5)
      generalize V1.alloc (.cells #[.int .u8 ((a.length : Int) % 256)] 5) = V2 at *
      generalize V1.heap.size = g1 at *
      clear B1 hg1
      refine Gen.wpM_only (i := 8) (by kernel_rfl) ?_
      refine Gen.mOp_list rfl (by go_simp) (by kernel_rfl) ?_
      rintro _ ⟨n2, rfl⟩
      have B2 : Below w.heap.size V2 (V2.drewN n2) := (Gen.low_pre w.heap.size).drewN _ _
      have hg2 : V2.grownBy (V2.drewN n2) none := grownBy_drewN V2 n2 none
      replace ho := ho.other hg2 (fun _ _ e => by cases e)
      replace R1 := R1.other hg2 (fun _ _ _ e => by cases e)
      replace BW := BW.trans B2
      generalize V2.drewN n2 = V3 at *
      refine wpList_append_rd rfl (.tmp 12) (.tmp 19) rfl w.heap.size _ fs rfl ho _ 1 [mark8 (a.length : Int)] rfl R1 (by have := HLe.out; have := HBl.out; simp; omega) BW.size ?_
      intro v4 w4 ho4 hg4
      have B4 := (Below.refl w.heap.size V3).grown hg4 BW.size (fun k hk => ho.ge k hk)
      refine ⟨rfl, B4, ?_⟩
      replace BW := BW.trans B4
      obtain ⟨p4, q4, rfl, -⟩ := ho4.rd
      clear hg4 ho R1 B2 hg2 B4
      refine Gen.wpM_end (by kernel_rfl) rfl (by kernel_rfl) (by decide) ?_
      rintro _ ⟨n5, rfl⟩
      have B5 : Below w.heap.size w4 (w4.drewN n5) := (Gen.low_pre w.heap.size).drewN _ _
      have hg5 : w4.grownBy (w4.drewN n5) none := grownBy_drewN w4 n5 none
      replace ho4 := ho4.other hg5 (fun _ _ e => by cases e)
      replace BW := BW.trans B5
      generalize w4.drewN n5 = V5 at *
      clear hg5 B5
      have RA := HRA.out.keep BW
      simp only [List.drop_succ_cons, List.drop_zero]
      have HE : Hid (blksN (l.take (j + 1)) = (fs ++ [mark8 (a.length : Int)]) ++ a) := by rw [HT.out]; show _ = _; simp [blkW]
      have HL : Hid ((fs ++ [mark8 (a.length : Int)]).length + a.length ≤ 1000000) := by have := HLe.out; have := HBl.out; show _ ≤ _; simp; omega
      generalize fs ++ [mark8 (a.length : Int)] = gs at *
      go_wp2_with (at_builtin; go_loud (refine wpList_append_rd rfl (.tmp 20) (.tmp 24) rfl w.heap.size _ gs rfl ho4 pa qa a rfl RA (by have := HL.out; omega) BW.size ?_); intro v6 w6 ho6 hg6)
      have B6 := BW.grown hg6 BW.size (fun k hk => ho4.ge k hk)
      rw [← HE.out] at ho6
      clear ho4 hg6 RA BW
      go_roundw
      case rel => exact ⟨j + 1, by omega, by go_num, ho6, B6⟩
      case measure => simp [intOf]; omega
    · have e : j = l.length := by omega
      subst e
      rw [List.take_length] at ho ⊢
      go_wp2
      go_ret
      exact ⟨_, rfl, ho, BW⟩

theorem blksN_bound : ∀ (l : List BlkD), (∀ b ∈ l, b.length ≤ 120) → (blksN l).length ≤ 121 * l.length
  | [], _ => by simp [blksN]
  | a :: m, h => by
    rw [blksN_cons, List.length_append, blkW_len, List.length_cons]
    have h2 := h a List.mem_cons_self
    have h3 := blksN_bound m fun b hb => h b (List.mem_cons_of_mem _ hb)
    omega
theorem pbC_many {l : List BlkD} (h : ¬ l.length ≤ 8) : pbC l = 2 := by rw [pbC, if_neg (fun k => h k.1)]
theorem pbC_big {l : List BlkD} (h : okBl l = false) : pbC l = 2 := by rw [pbC, if_neg (fun k => by rw [h] at k; exact absurd k.2.1 (by decide))]
theorem pbC_long {l : List BlkD} (h : ¬ (blksN l).length ≤ 160) : pbC l = 2 := by rw [pbC, if_neg (fun k => h k.2.2)]
theorem pbL_none {l : List BlkD} (h : pbC l = 2) : pbL l = [] := by rw [pbL, if_neg (by rw [h]; decide)]


theorem none_ownB (w : World) (B : Nat) (h : B ≤ w.heap.size) : OwnL 22 bytC (w.alloc (.cells #[] 22)) B (.slice (some ⟨w.heap.size, 0, none⟩) 0 0) [] [] [] :=
  ⟨World.ownsRow_lit (base := B) (e := 22) (size := 1) w #[] 0 h (by unfold maxLen; decide) (by simp), ⟨rfl, rfl⟩, by simp [Value.ownBlock]⟩
theorem nil_ownB (w : World) (B : Nat) : OwnL 22 bytC w B (.slice none 0 0) [] [] [] := ⟨World.ownsRow_nil _ _ _ _, ⟨rfl, rfl⟩, by simp [Value.ownBlock]⟩
set_option maxRecDepth 4000 in
set_option maxHeartbeats 2000000 in
theorem l6Split_c (data : List UInt8) (p : Option Addr) (q : Nat) (w : World) (hr : Rd w p q data) (hd : data.length ≤ 1000) :
    Calls Tryz.prog 127 #[.slice p data.length q] w fun e w' => ∃ v, e = .returned (.tuple #[v, .bool (splitR data 0 []).isSome]) ∧ (∃ xs fp, OwnL 22 bytC w' w.heap.size v ((splitR data 0 []).getD []) xs fp) ∧ Below w.heap.size w w' := by
  have HR : Hid (Rd w p q data) := hr
  have hq1 : data.length ≤ q := hr.1
  have hq2 : q ≤ 2 ^ 63 - 1 := hr.2.1
  have hdI : (data.length : Int) ≤ 1000 := by omega
  have O1 := none_ownB w w.heap.size (Nat.le_refl _)
  have BW := alloc_below w (.cells #[] 22)
  obtain ⟨fin, HF⟩ : ∃ fin, Hid (fin = splitR data 0 []) := ⟨_, rfl⟩
  rw [← HF.out]
  clear hr
  go_enter Tryz.func127, Tryz.ntmps127
  go_wp2_with fail
  go_loopw [4, 5] (fun v i wr => ∃ (at_ : Nat) (out : List BlkD) (xs : List Value) (fp : List Nat), at_ ≤ data.length ∧ i = .int .i64 at_ ∧ OwnL 22 bytC wr w.heap.size v out xs fp ∧ out.length ≤ 8 ∧ fin = splitR data at_ out ∧ Below w.heap.size w wr)
    (fun _ i _ => data.length - (intOf i).toNat)
  case atStart => exact ⟨0, [], [], [], Nat.zero_le _, rfl, O1, by decide, HF.out, BW⟩
  case round =>
    clear O1 BW HF
    obtain ⟨at_, out, xs, fp, hat, rfl, ho, hol, hfin, BW⟩ := hrel
    have HFN : Hid (fin = splitR data at_ out) := hfin
    clear hfin
    by_cases hlt : at_ < data.length
    · have hI : (at_ : Int) < (data.length : Int) := by omega
      obtain ⟨b, o, e1, hcd⟩ := (HR.out.keep BW).2.2.2 (by omega)
      subst e1
      have hcy : wr.cell? ⟨b, o + at_, none⟩ = some (.int .u8 ((numAt data at_ : Nat) : Int)) := hcd at_ hlt
      have hnl : numAt data at_ < 256 := UInt8.toNat_lt _
      have hnI : ((numAt data at_ : Nat) : Int) < 256 := by omega
      obtain ⟨po, qo, rfl, hord⟩ := ho.rd
      have hqo1 : out.length ≤ qo := hord.1
      have hqo2 : qo ≤ 2 ^ 63 - 1 := hord.2.1
      by_cases h2 : 120 < numAt data at_ ∨ 8 ≤ out.length ∨ data.length < at_ + 1 + numAt data at_
      · have HE : Hid (fin = none) := by show _ = _; rw [HFN.out, splitR_none hlt h2]
        generalize numAt data at_ = n at *
        clear hcd HFN
        by_cases h3 : 120 < n
        · have h3I : 120 < (n : Int) := by omega
          go_wp2_with fail
          exact bodyPost_ret (v := .tuple #[.slice none 0 0, .bool false]) (by simp [results, Tryz.results127, go_sem]) rfl ⟨_, by rw [HE.out]; rfl, ⟨_, _, by rw [HE.out]; exact nil_ownB _ _⟩, BW⟩
        · have h3I : ¬ (120 < (n : Int)) := by omega
          by_cases h4 : 8 ≤ out.length
          · have h4I : 8 ≤ (out.length : Int) := by omega
            go_wp2_with fail
            exact bodyPost_ret (v := .tuple #[.slice none 0 0, .bool false]) (by simp [results, Tryz.results127, go_sem]) rfl ⟨_, by rw [HE.out]; rfl, ⟨_, _, by rw [HE.out]; exact nil_ownB _ _⟩, BW⟩
          · have h4I : ¬ (8 ≤ (out.length : Int)) := by omega
            have h5I : (data.length : Int) < (at_ : Int) + 1 + (n : Int) := by omega
            go_wp2_with fail
            exact bodyPost_ret (v := .tuple #[.slice none 0 0, .bool false]) (by simp [results, Tryz.results127, go_sem]) rfl ⟨_, by rw [HE.out]; rfl, ⟨_, _, by rw [HE.out]; exact nil_ownB _ _⟩, BW⟩
      · have h3I : ¬ (120 < ((numAt data at_ : Nat) : Int)) := by omega
        have h4I : ¬ (8 ≤ (out.length : Int)) := by omega
        have h5I : ¬ ((data.length : Int) < (at_ : Int) + 1 + ((numAt data at_ : Nat) : Int)) := by omega
        have HN : Hid (fin = splitR data (at_ + 1 + numAt data at_) (out ++ [blkAt data at_])) := by show _ = _; rw [HFN.out, splitR_next hlt h2]
        have hcut2 := (HR.out.keep BW).cut (at_ + 1) (numAt data at_) (q - (at_ + 1)) (by omega) (by omega) (by have := HR.out.2.1; omega)
        have hbl : Hid ((blkAt data at_).length = numAt data at_) := by show _ = _; unfold blkAt; simp; omega
        have hol2 : Hid ((out ++ [blkAt data at_]).length ≤ 8) := by show _ ≤ _; rw [List.length_append, List.length_singleton]; omega
        have hnx : Hid (at_ + 1 + numAt data at_ ≤ data.length) := by show _ ≤ _; omega
        have hrd2 : Rd wr (if q = at_ + 1 then some ⟨b, o, none⟩ else some ⟨b, o + (at_ + 1), none⟩) (q - (at_ + 1)) (blkAt data at_) := by
          split
          · rename_i hq
            have hn0 : numAt data at_ = 0 := by omega
            unfold blkAt
            rw [hn0, List.take_zero]
            exact ⟨by simp, by unfold maxLen; omega, fun e => by simp at e, fun h => by simp at h⟩
          · exact hcut2
        have KC : Hid (∀ (pX : Option Addr) (cX : Nat), pX = (if q = at_ + 1 then some ⟨b, o, none⟩ else some ⟨b, o + (at_ + 1), none⟩) → cX = q - (at_ + 1) → Calls Tryz.prog 16 #[.slice pX (numAt data at_) cX] wr fun e w' => ∃ u, e = .returned u ∧ Own w' wr.heap.size u (blkAt data at_) ∧ Below wr.heap.size wr w') := fun pX cX h1 h2 => by
          subst h1 h2
          have h := l1Copy_c (if q = at_ + 1 then some ⟨b, o, none⟩ else some ⟨b, o + (at_ + 1), none⟩) (q - (at_ + 1)) _ wr hrd2 (by rw [hbl.out]; omega)
          rw [hbl.out] at h
          exact h
        clear hrd2
        generalize blkAt data at_ = body at *
        generalize numAt data at_ = n at *
        clear hcd hcut2 h2 HFN hnl
        go_wp2_with fail
        case' inl =>
          have hq : q = at_ + 1 := by assumption
          subst hq
          refine (KC.out _ _ (by rw [if_pos rfl]) (by omega)).mono ?_
        case' inr => refine (KC.out _ _ (by rw [if_neg (by assumption)]) rfl).mono ?_
        all_goals
          rintro e w3 ⟨u3, rfl, k3, hb3⟩
          obtain ⟨pv, qv, rfl, -⟩ := k3.rd
          rw [hbl.out] at k3 ⊢
          have hb4 := alloc_below w3 (.cells #[.slice pv n qv] 22)
          have hnew : ∀ j u, [Value.slice pv n qv][j]? = some u → (w3.alloc (.cells #[.slice pv n qv] 22)).cell? ((⟨w3.heap.size, 0, none⟩ : Addr).add j) = some u := fun j u hj => (Arr.new w3 [.slice pv n qv] 22).cells j u hj
          have k5 := k3.stay hb4
          have hb5 := Below.step hb3 hb4
          have ho5 := ho.stay hb5
          have BW5 := Below.step BW hb5
          have hrow5 : Hid ((w3.alloc (.cells #[.slice pv n qv] 22)).ownsRow w.heap.size 22 1 (.slice po out.length qo) out.length xs) := ho5.row
          obtain ⟨i0, hi, hz0, hz1, hz2⟩ := info_parts infoBlk
          go_wp2_with (at_builtin; go_loud (refine wpList_append_lies _ rfl (.tmp 33) (.tmp 43) 24 rfl w.heap.size 22 i0 (.slice none 0 0) 1 24 Tryz.underlying24 hi hz0 hz1 hz2 rfl (by decide) (.slice po out.length qo) out.length xs rfl hrow5.out ⟨w3.heap.size, 0, none⟩ 1 1 [.slice pv n qv] rfl rfl hnew (by intro u hu; simp at hu; subst hu; rfl) (by decide) (by unfold maxLen; omega) (by omega) BW5.size (w3.alloc (.cells #[.slice pv n qv] 22)).heap.size rfl ?_); intro g6 c6 w6 hown6 hgrow6 hat6 hlt6)
          have hlow : Hid (∀ j, (Value.slice pv n qv).ownBlock = some j → wr.heap.size ≤ j) := fun j hj => k5.ge j hj
          have hinsO : Hid (∀ j, j ∈ (Value.slice po out.length qo).ownBlock.toList ++ fp → j < wr.heap.size) := fun j hj => (ho.ins j hj).2
          have ka := blk_own_mk (a := body) (k5.lower (B' := w.heap.size) BW.size)
          have OP := ho5.push ka (fun j hj hj2 => by
            have h1 := hlow.out j (mem_opt.1 hj)
            have h2 := hinsO.out j hj2
            omega) (k := out.length + 1) (v' := .slice (some ⟨g6, 0, none⟩) (out.length + 1) c6) (g := g6) hown6 (by simp) hgrow6 rfl hat6
          have BW6 := BW5.grown hgrow6 BW5.size (fun k hk => (ho5.ins k (List.mem_append_left _ (mem_opt.2 hk))).1)
          clear ho ho5 k3 k5 hown6 hgrow6 hat6 hnew hrow5 ka BW5 BW hb3 hb4 hb5 hcy
          go_wp2_with fail
          go_roundw
          case rel => first | exact ⟨at_ + 1 + n, out ++ [body], _, _, hnx.out, by go_num, OP, hol2.out, HN.out, BW6⟩ | ((repeat apply Exists.intro); refine ⟨?_, rfl⟩; exact ⟨at_ + 1 + n, out ++ [body], _, _, hnx.out, by go_num, OP, hol2.out, HN.out, BW6⟩)
          case measure => have := hnx.out; simp [intOf]; omega
    · have e : at_ = data.length := by omega
      subst e
      have HE : Hid (fin = some out) := by show _ = _; rw [HFN.out, splitR_end (by omega)]
      obtain ⟨po, qo, rfl, -⟩ := ho.rd
      go_wp2_with fail
      exact bodyPost_ret (v := .tuple #[.slice po out.length qo, .bool true]) (by simp [results, Tryz.results127, go_sem]) rfl ⟨_, by rw [HE.out]; rfl, ⟨_, _, by rw [HE.out]; exact ho⟩, BW⟩

theorem ubC_many {data : List UInt8} (h : ¬ data.length ≤ 160) : ubC data = 2 ∧ ubL data = [] := by rw [ubC, ubL, if_neg h, if_neg h]; exact ⟨rfl, rfl⟩
theorem ubC_none {data : List UInt8} (h : data.length ≤ 160) (h2 : splitR data 0 [] = none) : ubC data = 5 ∧ ubL data = [] := by rw [ubC, ubL, if_pos h, if_pos h, h2]; exact ⟨rfl, rfl⟩
theorem ubC_some {data : List UInt8} {r : List BlkD} (h : data.length ≤ 160) (h2 : splitR data 0 [] = some r) : ubC data = 0 ∧ ubL data = r := by rw [ubC, ubL, if_pos h, if_pos h, h2]; exact ⟨rfl, rfl⟩

theorem blksN_sum : ∀ (l : List BlkD), sumB l ≤ (blksN l).length
  | [] => by simp [sumB]
  | a :: l => by
    have h := blksN_sum l
    rw [blksN_cons, List.length_append, blkW_len]
    simp only [sumB, List.map_cons, List.sum_cons] at h ⊢
    omega
theorem ubL_sum (data : List UInt8) : sumB (ubL data) ≤ 1048576 := by
  unfold ubL
  split
  · rename_i h
    cases hs : splitR data 0 [] with
    | none => simp [sumB]
    | some r =>
      have h2 := (pack_split data data.length 0 [] r (by omega) (Nat.zero_le _) (by simp [blksN]) (by decide) (fun b hb => by cases hb) hs).1
      have h3 := blksN_sum r
      rw [h2] at h3
      simp only [Option.getD_some]
      omega
  · simp [sumB]
end Go.Proofs.YtbaldmmbphbinaaGreatDoor

/- The contracts of what reads messages in the specification: l6Unpack, UnpackMsgs (code, place, messages, each of which owns its memory), SameMsgs. What was there stays. -/
namespace Go.Proofs.YtbaldmmbphbinaaGreatDoor
open Go.ChangeShapes Go.WideShapes Go.ChangeAt Go.RowKit
theorem none_ownM (w : World) (B : Nat) (h : B ≤ w.heap.size) : OwnL 251 msgC (w.alloc (.cells #[] 251)) B (.slice (some ⟨w.heap.size, 0, none⟩) 0 0) [] [] [] :=
  ⟨World.ownsRow_lit (base := B) (e := 251) (size := 2) w #[] 0 h (by unfold maxLen; decide) (by simp), ⟨rfl, rfl⟩, by simp [Value.ownBlock]⟩
theorem nil_ownM (w : World) (B : Nat) : OwnL 251 msgC w B (.slice none 0 0) [] [] [] := ⟨World.ownsRow_nil _ _ _ _, ⟨rfl, rfl⟩, by simp [Value.ownBlock]⟩


theorem packAll_bulk : ∀ (l : List MsgD), bulkM l ≤ (packAll l).length
  | [] => by simp [bulkM]
  | a :: l => by
    have h := packAll_bulk l
    rw [packAll_cons, List.length_append, packW_len]
    simp only [bulkM, List.map_cons, List.sum_cons, List.length_cons] at h ⊢
    omega

def sameM (a b : List MsgD) : Bool := decide (a = b)
theorem sameM_at {a b : List MsgD} {k : Nat} {x y : MsgD} (hx : a[k]? = some x) (hy : b[k]? = some y) (h : x ≠ y) : sameM a b = false := by
  simp only [sameM, decide_eq_false_iff_not]
  intro e
  subst e
  rw [hx] at hy
  cases hy
  exact h rfl
end Go.Proofs.YtbaldmmbphbinaaGreatDoor

