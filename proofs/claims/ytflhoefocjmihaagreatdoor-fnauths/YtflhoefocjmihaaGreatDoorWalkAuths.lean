/- The walk of FnAuths, where the two tables hold what the program's text lays (written by tools/walk_auths.py). -/
import Derived.Test.YtflhoefocjmihaaGreatDoorAuthL
import Derived.Test.YtflhoefocjmihaaGreatDoorJoint19
import Derived.Test.YtflhoefocjmihaaGreatDoorJoint7
import Derived.Test.YtflhoefocjmihaaGreatDoorJoint6
import Derived.Test.YtflhoefocjmihaaGreatDoorJoint1
namespace Go.Proofs.YtflhoefocjmihaaGreatDoor
open Go.ChangeShapes Go.WideShapes Go.ChangeAt Go.RowKit

set_option maxRecDepth 4000 in
set_option maxHeartbeats 8000000 in
theorem fnAuths_walk (a : Option Addr) (cap : Nat) (bs0 : List UInt8) (w : World) (r0 : Rd w a cap bs0) (hT : Tabs w) :
    Calls Tryz.prog 4 #[.slice a bs0.length cap] w fun e w' => e = .returned (.bool true) ∧ Below w.heap.size w w' := by
  by_cases hl0 : 1048576 < bs0.length
  · go_enter Tryz.func4, Tryz.ntmps4
    go_wp2_with fail
    refine (lwBig_yes _ _ _ _ hl0).mono ?_
    rintro e w1 ⟨rfl, rfl⟩
    go_wp2
    go_ret
    exact ⟨rfl, Below.refl _ _⟩
  replace hl0 : bs0.length ≤ 1048576 := by omega
  have HT : Hid (Tabs w) := hT
  clear hT
  go_enter Tryz.func4, Tryz.ntmps4
  go_wp2_with fail
  refine (lwBig_no _ _ _ _ hl0).mono ?_
  rintro e w1 ⟨rfl, hw1⟩
  rw [hw1]
  clear hw1 w1
  go_wp2_with fail
  refine (drawMa_c _ _ bs0 _ r0).mono ?_
  rintro e w1 ⟨x, ctx, r, place, c, px, pc, qx, qc, rfl, hxl, hcl, hp1, hp2, rx, rc, BW⟩
  have hl1 := alloc_below w1 (.cells #[.int .i64 c.1, .int .i64 c.2.1, .int .i64 c.2.2] 41)
  have C := Arr.new w1 [.int .i64 c.1, .int .i64 c.2.1, .int .i64 c.2.2] 41
  replace rx := rx.keep hl1
  replace rc := rc.keep hl1
  replace BW := Below.step BW hl1
  clear hl1 r0 hl0
  have c0 := (C.cell 0).trans (show _ = some _ from rfl)
  have c1 := (C.cell 1).trans (show _ = some _ from rfl)
  have c2 := (C.cell 2).trans (show _ = some _ from rfl)
  have KM := implMa_c px pc qx qc x ctx r c place _ rx rc (HT.out.keep BW)
  by_cases h0 : maC x r ctx c place = 0
  · have hm : maD x r ctx c place = (0, mkN x r ctx c place) := by rw [maD, if_pos h0]
    obtain ⟨had, hq1, hq2⟩ := maC_ok h0
    obtain ⟨n, rfl⟩ := Int.eq_ofNat_of_zero_le hq1
    have hn : n ≤ 39 := by omega
    obtain ⟨hak, hct, hoc⟩ := adC_ok had
    have hop := okC_parts hoc
    have HN : Hid (n ≤ 39) := hn
    have HCA : Hid (∀ now : Int, 0 ≤ now → now ≤ 9999 → caD x r [c] (List.replicate n s1 ++ [(c.1, c.2.1, dgN x r ctx c)]) now (mkN x r ctx c n) = if c.2.2 < now then (9, zeroA) else (0, (ctx, c, (n : Int), mcN x r ctx c n))) := fun now h1 h2 => auths_check had hn ⟨by omega, by omega⟩ h1 h2
    have HCN : Hid (caD x r [] (List.replicate n s1 ++ [(c.1, c.2.1, dgN x r ctx c)]) 0 (mkN x r ctx c n) = (4, zeroA)) := auths_none had hn ⟨by omega, by omega⟩
    have HRA : Hid (raD (mkN x r ctx c n) = (0, (ctx, c, (n : Int), mcN x r ctx c n))) := raD_some (raR_make hct hoc (by omega) (by omega))
    have HUN : Hid (0 ≤ c.2.2) := hop.2.2.2.2.1
    have HAD : Hid (adD x r ctx c = (0, dgN x r ctx c)) := by show _ = _; rw [adD, if_pos had]
    have HAK : Hid (akD x r true = (0, kyN x r true)) := by show _ = _; rw [akD, if_pos hak]
    obtain ⟨mk, HMK⟩ : ∃ mk, Hid (mkN x r ctx c n = mk) := ⟨_, rfl⟩
    obtain ⟨dg, HDG⟩ : ∃ dg, Hid (dgN x r ctx c = dg) := ⟨_, rfl⟩
    obtain ⟨mc, HMC⟩ : ∃ mc, Hid (mcN x r ctx c n = mc) := ⟨_, rfl⟩
    have HD32 : Hid (dg.length = 32) := by show _ = _; rw [← HDG.out]; exact dgN_len _ _ _ _
    rw [HMK.out] at hm HCA HCN HRA
    rw [HDG.out] at HCA HCN HAD
    rw [HMC.out] at HCA HRA
    have KS : Hid (∀ W, Rd W px qx x → Rd W pc qc ctx → Calls Tryz.prog 17 #[.slice px x.length qx, .int .i64 r, .slice pc ctx.length qc, .agg #[.int .i64 c.1, .int .i64 c.2.1, .int .i64 c.2.2], .int .i64 (n : Int)] W fun e w' => ∃ u, e = .returned (.agg #[.int .i64 0, u]) ∧ Own w' W.heap.size u mk ∧ Below W.heap.size W w') := fun W h1 h2 => by
      have h := specMa_c px pc qx qc x ctx r c (n : Int) W h1 h2
      rw [hm] at h
      exact h
    rw [hm] at KM
    clear hm h0 had hq1 hq2 hak hct hoc hop hp1 hp2 hn HMK HDG HMC
    go_wp2_with fail
    generalize w1.alloc (.cells #[.int .i64 c.1, .int .i64 c.2.1, .int .i64 c.2.2] 41) = V at *
    generalize w1.heap.size = gc at *
    refine KM.mono ?_
    rintro e w2 ⟨u2, rfl, k2, hb2⟩
    obtain ⟨pm, qm, rfl, -⟩ := k2.rd
    have hl2 := alloc_below w2 (.cells #[.int .i64 0, .slice pm mk.length qm] 45)
    have M := Arr.new w2 [.int .i64 0, .slice pm mk.length qm] 45
    have rm := (Rd.own k2).keep hl2
    have hb3 := Below.step hb2 hl2
    replace C := C.stay hb3
    replace rx := rx.keep hb3
    replace rc := rc.keep hb3
    replace BW := Below.step BW hb3
    clear KM k2 hb2 hl2 hb3 c0 c1 c2
    have c0 := (C.cell 0).trans (show _ = some _ from rfl)
    have c1 := (C.cell 1).trans (show _ = some _ from rfl)
    have c2 := (C.cell 2).trans (show _ = some _ from rfl)
    have m0 := (M.cell 0).trans (show _ = some _ from rfl)
    have KD := implAd_c px pc qx qc x ctx r c _ rx rc (HT.out.keep BW)
    rw [HAD.out] at KD
    go_wp2_with fail
    generalize w2.alloc (.cells #[.int .i64 0, .slice pm mk.length qm] 45) = V0 at *
    generalize w2.heap.size = gm at *
    refine KD.mono ?_
    rintro e w3 ⟨u3, rfl, kd, hb3⟩
    obtain ⟨pd, qd, rfl, -⟩ := kd.rd
    have hl3 := alloc_below w3 (.cells #[.int .i64 0, .slice pd dg.length qd] 45)
    have Dl := Arr.new w3 [.int .i64 0, .slice pd dg.length qd] 45
    replace kd := kd.stay hl3
    have hb4 := Below.step hb3 hl3
    have hz4 := hb4.size
    replace C := C.stay hb4
    replace M := M.stay hb4
    replace rx := rx.keep hb4
    replace rc := rc.keep hb4
    replace rm := rm.keep hb4
    have BV := hb4
    clear KD hb3 hl3 hb4 c0 c1 c2 m0
    obtain ⟨i1, hi1, hy0, hy1, hy2⟩ := info_parts infoSign
    obtain ⟨i0, hi, hz0, hz1, hz2⟩ := info_parts info8
    have hnI : (n : Int) ≤ 39 := by have := HN.out; omega
    go_wp2_with (at_make; refine wpList_make_full _ rfl _ _ 34 rfl V0.heap.size 49 i1 (.agg #[.int .i64 0, .int .i64 0, .slice none 0 0]) 3 Tryz.underlying34 hi1 hy0 hy1 .i64 .i64 _ _ n rfl rfl rfl rfl (by rw [hy2]; omega) (by unfold maxLen; omega) hz4 ?_; intro w4 hown hgrow)
    rw [show (madeCells (Value.agg #[.int .i64 0, .int .i64 0, .slice none 0 0]).cells (n * 3)).toList = (List.replicate n [.int .i64 0, .int .i64 0, .slice none 0 0]).flatten from made_three _ _ _ n] at hown
    obtain ⟨gv, HG0⟩ : ∃ gv, Hid (w3.heap.size + 1 = gv) := ⟨_, rfl⟩
    have HGV : Hid ((w3.alloc (.cells #[.int .i64 0, .slice pd dg.length qd] 45)).heap.size = gv) := (size_alloc _ _).trans HG0.out
    rw [HGV.out] at hown
    have O : OwnL 49 signC w4 V0.heap.size (.slice (some ⟨gv, 0, none⟩) n n) (sgK n 0) (List.replicate n [.int .i64 0, .int .i64 0, .slice none 0 0]).flatten [] := ⟨by rw [sgK_len n 0 (Nat.zero_le _)]; exact hown, by unfold sgK; rw [Nat.sub_zero]; exact ownAll_same (sign_own_mk (a := s0) (Own_nil _ _)) n, by simp [Value.ownBlock]⟩
    have hb5 : Below (w3.alloc (.cells #[.int .i64 0, .slice pd dg.length qd] 45)).heap.size (w3.alloc (.cells #[.int .i64 0, .slice pd dg.length qd] 45)) w4 := (Below.refl _ _).grown hgrow (Nat.le_refl _) (fun k hk => by cases hk)
    have XX : Hid (0 < x.length → ∀ y, px = some y → y.block < gv) := by have h := rx.below; rw [HGV.out] at h; exact h
    have XC : Hid (0 < ctx.length → ∀ y, pc = some y → y.block < gv) := by have h := rc.below; rw [HGV.out] at h; exact h
    have XM : Hid (0 < mk.length → ∀ y, pm = some y → y.block < gv) := by have h := rm.below; rw [HGV.out] at h; exact h
    have XD : Hid (∀ k, (Value.slice pd dg.length qd).ownBlock = some k → k < gv) := fun k hk => by have h := kd.lt k hk; rw [HGV.out] at h; exact h
    have XG : Hid (gc < gv ∧ gm < gv ∧ w3.heap.size < gv ∧ V0.heap.size ≤ gv) := by have h1 := C.lt; have h2 := M.lt; have h3 := Dl.lt; rw [HGV.out] at h1 h2 h3; rw [HGV.out] at hz4; exact ⟨h1, h2, h3, hz4⟩
    replace C := C.stay hb5
    replace M := M.stay hb5
    replace Dl := Dl.stay hb5
    replace kd := kd.stay hb5
    replace rx := rx.keep hb5
    replace rc := rc.keep hb5
    replace rm := rm.keep hb5
    replace BV := Below.step BV hb5
    have hgv4 : Hid (gv < w4.heap.size) := (World.ownsRow.lt O.row gv rfl).2
    clear hown hgrow hb5 hz4
    rw [HG0.out]
    clear HGV HG0
    generalize w3.heap.size = gd at *
    go_wp2_with fail
    go_loopw [11] (fun i wr => ∃ (k : Nat) (xs : List Value) (fp : List Nat), k ≤ n ∧ i = .int .i64 k ∧ OwnL 49 signC wr V0.heap.size (.slice (some ⟨gv, 0, none⟩) n n) (sgK n k) xs fp ∧ (∀ j, j ∈ fp → gv < j) ∧ w4.grownBy wr (some gv))
      (fun i _ => n - (intOf i).toNat)
    case atStart => exact ⟨0, _, _, Nat.zero_le _, rfl, O, (fun j hj => by cases hj), World.grownBy.refl _ _⟩
    case round =>
      obtain ⟨k, xs, fp, hk, rfl, OK, hfp, hg⟩ := hrel
      by_cases hlt : k < n
      · have hI : (k : Int) < (n : Int) := by omega
        have HFP : Hid (∀ j, j ∈ fp → gv < j) := hfp
        have HG4 : Hid (w4.grownBy wr (some gv)) := hg
        rw [sgK_at hlt] at OK
        obtain ⟨x1, us, x2, f1, f, f2, hx, hf, hxl1, hso, hback⟩ := OK.refill
        obtain ⟨p3, q3, hus, -⟩ := sign_rep (signC.toRep hso)
        have hx3 : x1.length = k * 3 := by rw [hxl1, List.length_replicate]; rfl
        have hxs : xs = x1 ++ [.int .i64 0, .int .i64 0, .slice p3 0 q3] ++ x2 := by rw [hx, hus]; rfl
        have HROW : Hid _ := OK.row
        have HIN : Hid (∀ j, j ∈ fp → j < wr.heap.size) := fun j hj => (OK.ins j (List.mem_append_right _ hj)).2
        have HBK : Hid _ := hback
        have hwl : Hid (gv < wr.heap.size) := (World.ownsRow.lt OK.row gv rfl).2
        have hlen : (List.replicate k s1 ++ s0 :: List.replicate (n - k - 1) s0).length = n := by simp; omega
        have FCT : Hid (∀ W : World, wr.grownBy W none → W.cell? ⟨gv, k * 3, none⟩ = some (.int .i64 0) ∧ W.cell? ⟨gv, k * 3 + 1, none⟩ = some (.int .i64 0) ∧ W.cell? ⟨gv, k * 3 + 2, none⟩ = some (.slice p3 0 q3) ∧ ∀ i, W.frozen? ⟨gv, i, none⟩ = false) := fun W hW => by
          have hr := HROW.out
          rw [hlen] at hr
          have hr2 := ownsRow_fr hr (w' := W) (fun j hj => by cases hj; exact hW.block gv hwl.out (fun h => by cases h))
          refine ⟨(World.ownsRow.cellAt hr2 (k * 3) (by show k * 3 < n * 3; omega)).trans ?_, (World.ownsRow.cellAt hr2 (k * 3 + 1) (by show k * 3 + 1 < n * 3; omega)).trans ?_, (World.ownsRow.cellAt hr2 (k * 3 + 2) (by show k * 3 + 2 < n * 3; omega)).trans ?_, fun i => World.ownsRow.frozenAt hr2 i⟩
          · rw [hxs, List.append_assoc, List.getElem?_append_right (by omega), hx3, Nat.sub_self]; rfl
          · rw [hxs, List.append_assoc, List.getElem?_append_right (by omega), hx3, show k * 3 + 1 - k * 3 = 1 by omega]; rfl
          · rw [hxs, List.append_assoc, List.getElem?_append_right (by omega), hx3, show k * 3 + 2 - k * 3 = 2 by omega]; rfl
        clear O OK hfp hg hback hso hx hus
        go_wp2_with (at_make; refine wpList_make_full _ rfl _ _ 22 rfl wr.heap.size 5 i0 (.int .u8 0) 1 Tryz.underlying22 hi hz0 hz1 .i64 .i64 _ _ 32 rfl rfl rfl rfl (by rw [hz2]; decide) (by unfold maxLen; decide) (Nat.le_refl _) ?_; intro w5 hown hgrow; obtain ⟨y0, y1, y2, yf⟩ := FCT.out w5 hgrow)
        have kz := made_zeros hown
        have hrw : w5.ownsRow V0.heap.size 49 3 (.slice (some ⟨gv, 0, none⟩) n n) n xs := by have hr := HROW.out; rw [hlen] at hr; exact ownsRow_fr hr (fun j hj => by cases hj; exact hgrow.block gv hwl.out (fun h => by cases h))
        have hst := (World.ownsRow.stored (World.ownsRow.stored (World.ownsRow.stored hrw (k * 3) (.int .i64 1)).1 (k * 3 + 1) (.int .i64 1)).1 (k * 3 + 2) (.slice (some ⟨wr.heap.size, 0, none⟩) 32 32)).1
        rw [hxs, set_three _ _ _ _ _ _ hx3] at hst
        have kz2 : Own (((w5.setCell ⟨gv, k * 3, none⟩ (.int .i64 1)).setCell ⟨gv, k * 3 + 1, none⟩ (.int .i64 1)).setCell ⟨gv, k * 3 + 2, none⟩ (.slice (some ⟨wr.heap.size, 0, none⟩) 32 32)) wr.heap.size (.slice (some ⟨wr.heap.size, 0, none⟩) 32 32) (zs 32) := ((kz.set (a := ⟨gv, k * 3, none⟩) hwl.out _).set (a := ⟨gv, k * 3 + 1, none⟩) hwl.out _).set (a := ⟨gv, k * 3 + 2, none⟩) hwl.out _
        have hV0w : V0.heap.size ≤ wr.heap.size := by have h1 := XG.out.2.2.2; have h2 := hwl.out; omega
        have ON := HBK.out (((w5.setCell ⟨gv, k * 3, none⟩ (.int .i64 1)).setCell ⟨gv, k * 3 + 1, none⟩ (.int .i64 1)).setCell ⟨gv, k * 3 + 2, none⟩ (.slice (some ⟨wr.heap.size, 0, none⟩) 32 32)) s1 [.int .i64 1, .int .i64 1, .slice (some ⟨wr.heap.size, 0, none⟩) 32 32] _ (sign_own_mk (a := s1) (kz2.lower hV0w)) (by have h := hst; rw [show (List.replicate k s1 ++ s1 :: List.replicate (n - k - 1) s0).length = n by simp; omega]; exact h) (fun j hj => by have h1 := HFP.out j (by rw [hf]; rcases List.mem_append.1 hj with h | h; exact List.mem_append_left _ (List.mem_append_left _ h); exact List.mem_append_right _ h); rw [heap_setCell_other _ _ j _ (by show j ≠ gv; omega), heap_setCell_other _ _ j _ (by show j ≠ gv; omega), heap_setCell_other _ _ j _ (by show j ≠ gv; omega)]; exact hgrow.block j (HIN.out j (by rw [hf]; rcases List.mem_append.1 hj with h | h; exact List.mem_append_left _ (List.mem_append_left _ h); exact List.mem_append_right _ h)) (fun h => by cases h)) (fun j hj => by have hj2 : j = wr.heap.size := (Option.some.inj (show some wr.heap.size = some j from mem_opt.1 hj)).symm; subst hj2; refine ⟨fun h => by simp [Value.ownBlock] at h; have := hwl.out; omega, fun h => ?_, fun h => ?_⟩ <;> (have h9 := HIN.out _ (by rw [hf]; first | exact List.mem_append_left _ (List.mem_append_left _ h) | exact List.mem_append_right _ h); omega))
        rw [sgK_next] at ON
        have HFN : Hid (∀ j, j ∈ f1 ++ (Value.slice (some ⟨wr.heap.size, 0, none⟩) 32 32).ownBlock.toList ++ f2 → gv < j) := fun j hj => by
          rcases List.mem_append.1 hj with h | h
          · rcases List.mem_append.1 h with h | h
            · exact HFP.out j (by rw [hf]; exact List.mem_append_left _ (List.mem_append_left _ h))
            · have hj2 : j = wr.heap.size := (Option.some.inj (show some wr.heap.size = some j from mem_opt.1 h)).symm
              have := hwl.out
              omega
          · exact HFP.out j (by rw [hf]; exact List.mem_append_right _ h)
        have HGN : Hid (w4.grownBy (((w5.setCell ⟨gv, k * 3, none⟩ (.int .i64 1)).setCell ⟨gv, k * 3 + 1, none⟩ (.int .i64 1)).setCell ⟨gv, k * 3 + 2, none⟩ (.slice (some ⟨wr.heap.size, 0, none⟩) 32 32)) (some gv)) := grownBy_trans (grownBy_trans (grownBy_trans (grown_newC HG4.out hgrow (fun j hj => by cases hj)) (grownBy_set _ _ _ _)) (grownBy_set _ _ _ _)) (grownBy_set _ _ _ _)
        clear hown hgrow hrw hst kz kz2 HBK HROW HFP HG4 FCT HIN y0 y1 y2 yf hxs hf
        go_wp2_with fail
        go_roundw
        case rel => exact ⟨k + 1, _, _, by omega, by go_num, ON, HFN.out, HGN.out⟩
        case measure => simp [intOf]; omega
      · have e9 : k = n := by omega
        subst k
        rw [sgK_end] at OK
        have NG : Hid (∀ g : Nat, g < gv → (some gv : Option Nat) ≠ some g) := fun g h e => by cases e; omega
        replace C := C.other hg (NG.out _ XG.out.1)
        replace M := M.other hg (NG.out _ XG.out.2.1)
        replace Dl := Dl.other hg (NG.out _ XG.out.2.2.1)
        replace kd := kd.other hg (fun j hj => NG.out j (XD.out j hj))
        replace rx := Rd.draw rx hg XX.out
        replace rc := Rd.draw rc hg XC.out
        replace rm := Rd.draw rm hg XM.out
        replace BV := BV.grown hg BV.size (fun j hj => by cases hj; exact XG.out.2.2.2)
        have hal5 := alloc_below wr (.cells #[.int .i64 c.1, .int .i64 c.2.1, .slice pd dg.length qd] 49)
        have hnew : ∀ j u, ([.int .i64 c.1, .int .i64 c.2.1, .slice pd dg.length qd] : List Value)[j]? = some u → (wr.alloc (.cells #[.int .i64 c.1, .int .i64 c.2.1, .slice pd dg.length qd] 49)).cell? ((⟨wr.heap.size, 0, none⟩ : Addr).add j) = some u := fun j u hj => (Arr.new wr [.int .i64 c.1, .int .i64 c.2.1, .slice pd dg.length qd] 49).cells j u hj
        have HRO : Hid _ := (OK.stay hal5).row
        have HO5 : Hid _ := OK.stay hal5
        have d0 := (C.cell 0).trans (show _ = some _ from rfl)
        have d1 := (C.cell 1).trans (show _ = some _ from rfl)
        have dd := (Dl.cell 1).trans (show _ = some _ from rfl)
        replace C := C.stay hal5
        replace M := M.stay hal5
        replace Dl := Dl.stay hal5
        replace kd := kd.stay hal5
        replace rx := rx.keep hal5
        replace rc := rc.keep hal5
        replace rm := rm.keep hal5
        replace BV := Below.step BV hal5
        have HB5 : Hid (V0.heap.size ≤ (wr.alloc (.cells #[.int .i64 c.1, .int .i64 c.2.1, .slice pd dg.length qd] 49)).heap.size) := BV.size
        have HFP : Hid (∀ j, j ∈ fp → gv < j) := hfp
        clear O OK hfp hg hal5 hgv4
        go_wp2_with (at_builtin; refine Hid.out ?_)
        unfold Hid
        refine wpList_append_lies _ rfl (.tmp 62) (.tmp 70) 34 rfl V0.heap.size 49 i1 (.agg #[.int .i64 0, .int .i64 0, .slice none 0 0]) 3 40 Tryz.underlying34 hi1 hy0 hy1 hy2 rfl (by decide) (.slice (some ⟨gv, 0, none⟩) n n) n xs rfl (by have h := HRO.out; rw [List.length_replicate] at h; exact h) ⟨wr.heap.size, 0, none⟩ 1 1 [.int .i64 c.1, .int .i64 c.2.1, .slice pd dg.length qd] rfl rfl hnew (by intro u hu; simp at hu; rcases hu with rfl | rfl | rfl <;> rfl) (by decide) (by unfold maxLen; omega) (by omega) HB5.out _ rfl ?_
        intro g6 c6 w6 hown6 hgrow6 hat6 hlt6
        have hgz := hgrow6.size
        have ONW := HO5.out.push (a := ((c.1, c.2.1, dg) : SignD)) (sign_own_mk (a := ((c.1, c.2.1, dg) : SignD)) kd) (fun j hj hj2 => by
          have h1 := XD.out j (mem_opt.1 hj)
          rcases List.mem_append.1 hj2 with h | h
          · have h2 : gv = j := Option.some.inj (mem_opt.1 h)
            omega
          · have h2 := HFP.out j h
            omega) (k := n + 1) (v' := .slice (some ⟨g6, 0, none⟩) (n + 1) c6) (g := g6) hown6 (by simp) hgrow6 rfl hat6
        have RS0 := RdL.own ONW
        obtain ⟨sg, HSG⟩ : ∃ sg, Hid (List.replicate n s1 ++ [((c.1, c.2.1, dg) : SignD)] = sg) := ⟨_, rfl⟩
        have HSL : Hid (sg.length = n + 1) := by show _ = _; rw [← HSG.out]; simp
        rw [HSG.out] at RS0 HCA HCN
        have RS : RdL signC w6 (some ⟨g6, 0, none⟩) c6 sg := RS0
        clear RS0 ONW hown6 hat6 hlt6 HRO HO5 hnew d0 d1 dd HSG
        replace C := C.other hgrow6 (fun e => NG.out _ XG.out.1 e)
        replace M := M.other hgrow6 (fun e => NG.out _ XG.out.2.1 e)
        replace Dl := Dl.other hgrow6 (fun e => NG.out _ XG.out.2.2.1 e)
        replace rx := Rd.draw rx hgrow6 XX.out
        replace rc := Rd.draw rc hgrow6 XC.out
        replace rm := Rd.draw rm hgrow6 XM.out
        replace BV := BV.grown hgrow6 HB5.out (fun j hj => by cases hj; exact XG.out.2.2.2)
        replace BW := Below.step BW BV
        clear BV kd hgrow6 hgz HFP HB5 NG
        have KC : Hid (∀ (now : Int) (W : World) (pz : Option Addr) (qz : Nat), 0 ≤ now → now ≤ 9999 → Below w.heap.size w W → RdL certC W pz qz [c] → RdL signC W (some ⟨g6, 0, none⟩) c6 sg → Rd W pm qm mk → Rd W px qx x → Calls Tryz.prog 19 #[.slice px x.length qx, .int .i64 r, .slice pz 1 qz, .slice (some ⟨g6, 0, none⟩) (n + 1) c6, .int .i64 now, .slice pm mk.length qm] W fun e w' => ∃ us fp, e = .returned (.agg us.toArray) ∧ authResultC.own w' W.heap.size (if c.2.2 < now then (9, zeroA) else (0, (ctx, c, (n : Int), mc))) us fp ∧ Below W.heap.size W w') := fun now W pz qz h1 h2 hb h3 h4 h5 h6 => by
          have h := implCa_k px pz (some ⟨g6, 0, none⟩) pm qx qz c6 qm x r [c] sg now mk W h6 h3 h4 h5 (HT.out.keep hb)
          rw [HCA.out now h1 h2, HSL.out] at h
          exact h
        have KN : Hid (∀ (W : World), Below w.heap.size w W → RdL signC W (some ⟨g6, 0, none⟩) c6 sg → Rd W pm qm mk → Rd W px qx x → Calls Tryz.prog 19 #[.slice px x.length qx, .int .i64 r, .slice none 0 0, .slice (some ⟨g6, 0, none⟩) (n + 1) c6, .int .i64 0, .slice pm mk.length qm] W fun e w' => ∃ us fp, e = .returned (.agg us.toArray) ∧ authResultC.own w' W.heap.size (4, zeroA) us fp ∧ Below W.heap.size W w') := fun W hb h4 h5 h6 => by
          have h := implCa_k px none (some ⟨g6, 0, none⟩) pm qx 0 c6 qm x r [] sg 0 mk W h6 (rdl_nilA W) h4 h5 (HT.out.keep hb)
          rw [HCN.out, HSL.out] at h
          exact h
        have KR : Hid (∀ (W : World), Rd W pm qm mk → Calls Tryz.prog 20 #[.slice pm mk.length qm] W fun e w' => ∃ us fp, e = .returned (.agg us.toArray) ∧ authResultC.own w' W.heap.size (0, (ctx, c, (n : Int), mc)) us fp ∧ Below W.heap.size W w') := fun W h => by
          have h2 := implRa_k mk pm qm W h
          rw [HRA.out] at h2
          exact h2
        have KK : Hid (∀ (W : World), Below w.heap.size w W → Rd W px qx x → Calls Tryz.prog 21 #[.slice px x.length qx, .int .i64 r, .bool true] W fun e w' => ∃ u, e = .returned (.agg #[.int .i64 0, u]) ∧ Own w' W.heap.size u (kyN x r true) ∧ Below W.heap.size W w') := fun W hb h => by
          have h2 := implAk_c px qx x r true W h (HT.out.keep hb)
          rw [HAK.out] at h2
          exact h2
        have HKL : Hid ((kyN x r true).length = 32) := kyN_len _ _ _
        obtain ⟨ky, HKY⟩ : ∃ ky, Hid (kyN x r true = ky) := ⟨_, rfl⟩
        rw [HKY.out] at KK HKL
        clear HKY HCA HCN HRA HAK
        have c0 := (C.cell 0).trans (show _ = some _ from rfl)
        have c1 := (C.cell 1).trans (show _ = some _ from rfl)
        have c2 := (C.cell 2).trans (show _ = some _ from rfl)
        have RCe := rdl_oneC w6 c
        have hl := alloc_below w6 (.cells #[.int .i64 c.1, .int .i64 c.2.1, .int .i64 c.2.2] 41)
        replace C := C.stay hl
        replace M := M.stay hl
        replace Dl := Dl.stay hl
        replace rx := rx.keep hl
        replace rc := rc.keep hl
        replace rm := rm.keep hl
        replace RS := RS.keep hl
        replace BW := Below.step BW hl
        have m0 := (M.cell 0).trans (show _ = some _ from rfl)
        have m1 := (M.cell 1).trans (show _ = some _ from rfl)
        go_wp2_with fail
        generalize hVV : (w6.alloc (.cells #[.int .i64 c.1, .int .i64 c.2.1, .int .i64 c.2.2] 41)) = VA at *
        clear hVV hl c0 c1 c2 m0 m1
        generalize w6.heap.size = gce at *
        refine (KC.out 0 VA (some ⟨gce, 0, none⟩) 1 (by decide) (by decide) BW RCe RS rm rx).mono ?_
        rintro e w7 ⟨us, fp2, rfl, ko, hb⟩
        rw [if_neg (by have := HUN.out; omega)] at ko
        obtain ⟨pa1, qa1, pa4, qa4, rfl, ra1, -⟩ := authResult_rep (authResultC.toRep ko)
        replace C := C.stay hb
        replace M := M.stay hb
        replace Dl := Dl.stay hb
        replace rx := rx.keep hb
        replace rc := rc.keep hb
        replace rm := rm.keep hb
        replace RS := RS.keep hb
        replace BW := Below.step BW hb
        clear hb RCe
        simp only [] at ra1
        clear ko
        have hl := alloc_below w7 (.cells #[.int .i64 0, .slice pa1 ctx.length qa1, .int .i64 c.1, .int .i64 c.2.1, .int .i64 c.2.2, .int .i64 (n : Int), .slice pa4 mc.length qa4] 53)
        have RA := Arr.new w7 [.int .i64 0, .slice pa1 ctx.length qa1, .int .i64 c.1, .int .i64 c.2.1, .int .i64 c.2.2, .int .i64 (n : Int), .slice pa4 mc.length qa4] 53
        replace C := C.stay hl
        replace M := M.stay hl
        replace Dl := Dl.stay hl
        replace rx := rx.keep hl
        replace rc := rc.keep hl
        replace rm := rm.keep hl
        replace RS := RS.keep hl
        replace BW := Below.step BW hl
        replace ra1 := ra1.keep hl
        clear hl
        have m0 := (M.cell 0).trans (show _ = some _ from rfl)
        have m1 := (M.cell 1).trans (show _ = some _ from rfl)
        go_wp2_with fail
        generalize hVV : w7.alloc (.cells #[.int .i64 0, .slice pa1 ctx.length qa1, .int .i64 c.1, .int .i64 c.2.1, .int .i64 c.2.2, .int .i64 (n : Int), .slice pa4 mc.length qa4] 53) = V7 at *
        clear hVV m0 m1
        generalize w7.heap.size = g7 at *
        refine (KR.out V7 rm).mono ?_
        rintro e w8 ⟨us, fp2, rfl, ko, hb⟩
        obtain ⟨pb1, qb1, pb4, qb4, rfl, -, -⟩ := authResult_rep (authResultC.toRep ko)
        replace C := C.stay hb
        replace M := M.stay hb
        replace Dl := Dl.stay hb
        replace RA := RA.stay hb
        replace rx := rx.keep hb
        replace rc := rc.keep hb
        replace rm := rm.keep hb
        replace ra1 := ra1.keep hb
        replace RS := RS.keep hb
        replace BW := Below.step BW hb
        clear hb ko
        have hl := alloc_below w8 (.cells #[.int .i64 0, .slice pb1 ctx.length qb1, .int .i64 c.1, .int .i64 c.2.1, .int .i64 c.2.2, .int .i64 (n : Int), .slice pb4 mc.length qb4] 53)
        have RB := Arr.new w8 [.int .i64 0, .slice pb1 ctx.length qb1, .int .i64 c.1, .int .i64 c.2.1, .int .i64 c.2.2, .int .i64 (n : Int), .slice pb4 mc.length qb4] 53
        replace C := C.stay hl
        replace M := M.stay hl
        replace Dl := Dl.stay hl
        replace RA := RA.stay hl
        replace rx := rx.keep hl
        replace rc := rc.keep hl
        replace rm := rm.keep hl
        replace ra1 := ra1.keep hl
        replace RS := RS.keep hl
        replace BW := Below.step BW hl
        clear hl
        go_wp2_with fail
        generalize hVV : w8.alloc (.cells #[.int .i64 0, .slice pb1 ctx.length qb1, .int .i64 c.1, .int .i64 c.2.1, .int .i64 c.2.2, .int .i64 (n : Int), .slice pb4 mc.length qb4] 53) = V8 at *
        clear hVV
        generalize w8.heap.size = g8 at *
        refine (KK.out V8 BW rx).mono ?_
        rintro e w9 ⟨u, rfl, ku, hb⟩
        obtain ⟨pk, qk, rfl, rk⟩ := ku.rd
        have hqk1 := rk.1
        have hqk2 : qk ≤ 2 ^ 63 - 1 := rk.2.1
        replace C := C.stay hb
        replace M := M.stay hb
        replace Dl := Dl.stay hb
        replace RA := RA.stay hb
        replace RB := RB.stay hb
        replace rx := rx.keep hb
        replace rc := rc.keep hb
        replace rm := rm.keep hb
        replace ra1 := ra1.keep hb
        replace RS := RS.keep hb
        replace BW := Below.step BW hb
        clear hb ku rk
        have hl := alloc_below w9 (.cells #[.int .i64 0, .slice pk ky.length qk] 45)
        have RK := Arr.new w9 [.int .i64 0, .slice pk ky.length qk] 45
        replace C := C.stay hl
        replace M := M.stay hl
        replace Dl := Dl.stay hl
        replace RA := RA.stay hl
        replace RB := RB.stay hl
        replace rx := rx.keep hl
        replace rc := rc.keep hl
        replace rm := rm.keep hl
        replace ra1 := ra1.keep hl
        replace RS := RS.keep hl
        replace BW := Below.step BW hl
        clear hl
        have c0 := (C.cell 0).trans (show _ = some _ from rfl)
        have c1 := (C.cell 1).trans (show _ = some _ from rfl)
        have c2 := (C.cell 2).trans (show _ = some _ from rfl)
        have RCe := rdl_oneC (w9.alloc (.cells #[.int .i64 0, .slice pk ky.length qk] 45)) c
        have hl := alloc_below (w9.alloc (.cells #[.int .i64 0, .slice pk ky.length qk] 45)) (.cells #[.int .i64 c.1, .int .i64 c.2.1, .int .i64 c.2.2] 41)
        replace C := C.stay hl
        replace M := M.stay hl
        replace Dl := Dl.stay hl
        replace RA := RA.stay hl
        replace RB := RB.stay hl
        replace RK := RK.stay hl
        replace rx := rx.keep hl
        replace rc := rc.keep hl
        replace rm := rm.keep hl
        replace ra1 := ra1.keep hl
        replace RS := RS.keep hl
        replace BW := Below.step BW hl
        rw [show (w9.alloc (.cells #[.int .i64 0, .slice pk ky.length qk] 45)).heap.size = w9.heap.size + 1 from size_alloc _ _] at RCe
        have m0 := (M.cell 0).trans (show _ = some _ from rfl)
        have m1 := (M.cell 1).trans (show _ = some _ from rfl)
        go_wp2_with fail
        generalize hVV : ((w9.alloc (.cells #[.int .i64 0, .slice pk ky.length qk] 45)).alloc (.cells #[.int .i64 c.1, .int .i64 c.2.1, .int .i64 c.2.2] 41)) = VA at *
        clear hVV hl c0 c1 c2 m0 m1
        generalize w9.heap.size + 1 = gce at *
        refine (KC.out 9999 VA (some ⟨gce, 0, none⟩) 1 (by decide) (by decide) BW RCe RS rm rx).mono ?_
        rintro e w10 ⟨us, fp2, rfl, ko, hb⟩
        obtain ⟨a9, HA9⟩ : ∃ a9 : AuthResultD, Hid ((if c.2.2 < 9999 then ((9, zeroA) : AuthResultD) else (0, (ctx, c, (n : Int), mc))) = a9) := ⟨_, rfl⟩
        rw [HA9.out] at ko
        have dB : ((a9.1 == 9) == decide (c.2.2 < 9999)) = true := by
          rw [← HA9.out]
          by_cases h : c.2.2 < 9999
          · rw [if_pos h]; simp [h]
          · rw [if_neg h]; simp [h]
        obtain ⟨pd1, qd1, pd4, qd4, rfl, rd1, -⟩ := authResult_rep (authResultC.toRep ko)
        replace C := C.stay hb
        replace M := M.stay hb
        replace Dl := Dl.stay hb
        replace RA := RA.stay hb
        replace RB := RB.stay hb
        replace RK := RK.stay hb
        replace rx := rx.keep hb
        replace rc := rc.keep hb
        replace rm := rm.keep hb
        replace ra1 := ra1.keep hb
        replace RS := RS.keep hb
        replace BW := Below.step BW hb
        clear hb RCe
        clear ko rd1 HA9
        have hl := alloc_below w10 (.cells #[.int .i64 a9.1, .slice pd1 a9.2.1.length qd1, .int .i64 a9.2.2.1.1, .int .i64 a9.2.2.1.2.1, .int .i64 a9.2.2.1.2.2, .int .i64 a9.2.2.2.1, .slice pd4 a9.2.2.2.2.length qd4] 53)
        have RD := Arr.new w10 [.int .i64 a9.1, .slice pd1 a9.2.1.length qd1, .int .i64 a9.2.2.1.1, .int .i64 a9.2.2.1.2.1, .int .i64 a9.2.2.1.2.2, .int .i64 a9.2.2.2.1, .slice pd4 a9.2.2.2.2.length qd4] 53
        replace C := C.stay hl
        replace M := M.stay hl
        replace Dl := Dl.stay hl
        replace RA := RA.stay hl
        replace RB := RB.stay hl
        replace RK := RK.stay hl
        replace rx := rx.keep hl
        replace rc := rc.keep hl
        replace rm := rm.keep hl
        replace ra1 := ra1.keep hl
        replace RS := RS.keep hl
        replace BW := Below.step BW hl
        clear hl
        go_wp2_with fail
        skip
        generalize hVV : w10.alloc (.cells #[.int .i64 a9.1, .slice pd1 a9.2.1.length qd1, .int .i64 a9.2.2.1.1, .int .i64 a9.2.2.1.2.1, .int .i64 a9.2.2.1.2.2, .int .i64 a9.2.2.2.1, .slice pd4 a9.2.2.2.2.length qd4] 53) = VF at *
        clear hVV
        generalize w10.heap.size = g10 at *
        have c0 := (C.cell 0).trans (show _ = some _ from rfl)
        have c1 := (C.cell 1).trans (show _ = some _ from rfl)
        have c2 := (C.cell 2).trans (show _ = some _ from rfl)
        have m0 := (M.cell 0).trans (show _ = some _ from rfl)
        have m1 := (M.cell 1).trans (show _ = some _ from rfl)
        have l0 := (Dl.cell 0).trans (show _ = some _ from rfl)
        have l1 := (Dl.cell 1).trans (show _ = some _ from rfl)
        have a0 := (RA.cell 0).trans (show _ = some _ from rfl)
        have a1 := (RA.cell 1).trans (show _ = some _ from rfl)
        have a2 := (RA.cell 2).trans (show _ = some _ from rfl)
        have a3 := (RA.cell 3).trans (show _ = some _ from rfl)
        have a4 := (RA.cell 4).trans (show _ = some _ from rfl)
        have a5 := (RA.cell 5).trans (show _ = some _ from rfl)
        have a6 := (RA.cell 6).trans (show _ = some _ from rfl)
        have b0 := (RB.cell 0).trans (show _ = some _ from rfl)
        have b1 := (RB.cell 1).trans (show _ = some _ from rfl)
        have b2 := (RB.cell 2).trans (show _ = some _ from rfl)
        have b3 := (RB.cell 3).trans (show _ = some _ from rfl)
        have b4 := (RB.cell 4).trans (show _ = some _ from rfl)
        have b5 := (RB.cell 5).trans (show _ = some _ from rfl)
        have b6 := (RB.cell 6).trans (show _ = some _ from rfl)
        have k0 := (RK.cell 0).trans (show _ = some _ from rfl)
        have k1 := (RK.cell 1).trans (show _ = some _ from rfl)
        have d0 := (RD.cell 0).trans (show _ = some _ from rfl)
        have d1 := (RD.cell 1).trans (show _ = some _ from rfl)
        have d2 := (RD.cell 2).trans (show _ = some _ from rfl)
        have d3 := (RD.cell 3).trans (show _ = some _ from rfl)
        have d4 := (RD.cell 4).trans (show _ = some _ from rfl)
        have d5 := (RD.cell 5).trans (show _ = some _ from rfl)
        have d6 := (RD.cell 6).trans (show _ = some _ from rfl)
        have hne := HW.some VF
        have gc0 := HW.at c0
        have gc1 := HW.at c1
        have gc2 := HW.at c2
        have gm1 := HW.at m1
        have gl0 := HW.at l0
        have ga0 := HW.at a0
        have ga1 := HW.at a1
        have ga2 := HW.at a2
        have ga3 := HW.at a3
        have ga4 := HW.at a4
        have gb0 := HW.at b0
        have gb5 := HW.at b5
        have gk1 := HW.at k1
        have gd0 := HW.at d0
        have F0 := authR_f0
        have F1 := bytes_f1
        have hk32 : ((ky.length : Int) == 32) = true := by have := HKL.out; rw [beq_iff_eq]; omega
        clear c0 c1 c2 m0 m1 l0 l1 a0 a1 a2 a3 a4 a5 a6 b0 b1 b2 b3 b4 b5 b6 k0 k1 d0 d1 d2 d3 d4 d5 d6
        clear C M Dl RA RB RK RD
        simp only [List.append_eq, List.cons_append, List.nil_append]
        refine wp_region_pick [0, 1, 2, 3, 4, 5, 6, 7, 8, 9, 10, 11, 12, 13, 14, 15, 16, 17, 18, 19] 71 51 1 rfl rfl rfl (by kernel_rfl) (by kernel_rfl) (by kernel_rfl) (by kernel_rfl) ?_
        simp only [opsAt, List.getElem?_toArray, List.getElem?_cons_zero, List.getElem?_cons_succ]
        repeat (go_big_quiet_step (fail))
        refine wpQuiet_nil ?_
        refine wpM_only (i := 20) (by kernel_rfl) ?_
        refine mOp_call rfl (by go_simp) 22 _ #[.slice pa1 ctx.length qa1, .slice pc ctx.length qc] (fun w => by go_simp) rfl ?_
        rintro _ ⟨sg0, rfl⟩
        refine (lwSame_yes _ _ _ _ _ _ ctx _ rfl rfl (ra1.keep sg0.h) (rc.keep sg0.h)).mono ?_
        rintro e wg0 ⟨rfl, hwg⟩
        subst hwg
        refine ⟨_, rfl, ⟨⟨sg0.w, Below.refl _ _⟩, rfl⟩, ?_⟩
        have hbg : Below _ _ sg0.w := sg0.h
        replace gc0 := HW.down gc0 hbg
        replace gc1 := HW.down gc1 hbg
        replace gc2 := HW.down gc2 hbg
        replace gm1 := HW.down gm1 hbg
        replace gl0 := HW.down gl0 hbg
        replace ga0 := HW.down ga0 hbg
        replace ga1 := HW.down ga1 hbg
        replace ga2 := HW.down ga2 hbg
        replace ga3 := HW.down ga3 hbg
        replace ga4 := HW.down ga4 hbg
        replace gb0 := HW.down gb0 hbg
        replace gb5 := HW.down gb5 hbg
        replace gk1 := HW.down gk1 hbg
        replace gd0 := HW.down gd0 hbg
        replace rx := rx.keep hbg
        replace rc := rc.keep hbg
        replace rm := rm.keep hbg
        replace ra1 := ra1.keep hbg
        replace RS := RS.keep hbg
        replace BW := Below.step BW hbg
        replace hne := HW.some sg0.w
        clear hbg
        generalize sg0.w = wg0 at *
        clear sg0
        refine wpM_more [21, 22, 23, 24, 25, 26, 27, 28, 29, 30, 31, 32, 33, 34, 35, 36, 37, 38, 39, 40, 41, 42, 43, 44, 45, 46, 47, 48, 49, 50, 51, 52, 53, 54] 50 16 rfl (by kernel_rfl) (by kernel_rfl) (by kernel_rfl) (by kernel_rfl) ?_
        simp only [opsAt, List.getElem?_toArray, List.getElem?_cons_zero, List.getElem?_cons_succ]
        go_simp
        repeat (go_big_quiet_step (fail))
        refine wpQuiet_nil ?_
        refine wpM_only (i := 55) (by kernel_rfl) ?_
        refine mOp_call rfl (by go_simp) 19 _ #[.slice px x.length qx, .int .i64 r, .slice none 0 0, .slice (some ⟨g6, 0, none⟩) (n + 1) c6, .int .i64 0, .slice pm mk.length qm] (fun w => by go_simp) rfl ?_
        rintro _ ⟨sg2, rfl⟩
        refine (KN.out _ (Below.step BW sg2.h) (RS.keep sg2.h) (rm.keep sg2.h) (rx.keep sg2.h)).mono ?_
        rintro e wg2 ⟨us, fp2, rfl, ko, hbx⟩
        obtain ⟨pe1, qe1, pe4, qe4, rfl, -, -⟩ := authResult_rep (authResultC.toRep ko)
        clear ko
        have hbg := Below.step sg2.h hbx
        refine ⟨_, rfl, ⟨⟨wg2, hbx⟩, rfl⟩, ?_⟩
        replace gc0 := HW.down gc0 hbg
        replace gc1 := HW.down gc1 hbg
        replace gc2 := HW.down gc2 hbg
        replace gm1 := HW.down gm1 hbg
        replace gl0 := HW.down gl0 hbg
        replace ga0 := HW.down ga0 hbg
        replace ga1 := HW.down ga1 hbg
        replace ga2 := HW.down ga2 hbg
        replace ga3 := HW.down ga3 hbg
        replace ga4 := HW.down ga4 hbg
        replace gb0 := HW.down gb0 hbg
        replace gb5 := HW.down gb5 hbg
        replace gk1 := HW.down gk1 hbg
        replace gd0 := HW.down gd0 hbg
        replace rx := rx.keep hbg
        replace rc := rc.keep hbg
        replace rm := rm.keep hbg
        replace ra1 := ra1.keep hbg
        replace RS := RS.keep hbg
        replace BW := Below.step BW hbg
        replace hne := HW.some wg2
        clear hbg hbx
        refine wpM_more [56, 57, 58, 59, 60, 61, 62, 63, 64, 65, 66] 15 4 rfl (by kernel_rfl) (by kernel_rfl) (by kernel_rfl) (by kernel_rfl) ?_
        simp only [opsAt, List.getElem?_toArray, List.getElem?_cons_zero, List.getElem?_cons_succ]
        go_simp
        repeat (go_big_quiet_step (fail))
        refine wpQuiet_nil ?_
        refine wpM_only (i := 67) (by kernel_rfl) ?_
        refine mOp_call rfl (by go_simp) 17 _ #[.slice px x.length qx, .int .i64 r, .slice pc ctx.length qc, .agg #[.int .i64 c.1, .int .i64 c.2.1, .int .i64 c.2.2], .int .i64 (n : Int)] (fun w => by go_simp) rfl ?_
        rintro _ ⟨sg4, rfl⟩
        refine (KS.out _ (rx.keep sg4.h) (rc.keep sg4.h)).mono ?_
        rintro e wg4 ⟨ug, rfl, kg, hbx⟩
        obtain ⟨py, qy, rfl, ry⟩ := kg.rd
        have hbg := Below.step sg4.h hbx
        refine ⟨_, rfl, ⟨⟨wg4, hbx⟩, rfl⟩, ?_⟩
        replace gc0 := HW.down gc0 hbg
        replace gc1 := HW.down gc1 hbg
        replace gc2 := HW.down gc2 hbg
        replace gm1 := HW.down gm1 hbg
        replace gl0 := HW.down gl0 hbg
        replace ga0 := HW.down ga0 hbg
        replace ga1 := HW.down ga1 hbg
        replace ga2 := HW.down ga2 hbg
        replace ga3 := HW.down ga3 hbg
        replace ga4 := HW.down ga4 hbg
        replace gb0 := HW.down gb0 hbg
        replace gb5 := HW.down gb5 hbg
        replace gk1 := HW.down gk1 hbg
        replace gd0 := HW.down gd0 hbg
        replace rx := rx.keep hbg
        replace rc := rc.keep hbg
        replace rm := rm.keep hbg
        replace ra1 := ra1.keep hbg
        replace RS := RS.keep hbg
        replace BW := Below.step BW hbg
        replace hne := HW.some wg4
        clear hbg kg hbx
        refine wpM_more [68] 3 2 rfl (by kernel_rfl) (by kernel_rfl) (by kernel_rfl) (by kernel_rfl) ?_
        simp only [opsAt, List.getElem?_toArray, List.getElem?_cons_zero, List.getElem?_cons_succ]
        go_simp
        repeat (go_big_quiet_step (fail))
        refine wpQuiet_nil ?_
        refine wpM_only (i := 69) (by kernel_rfl) ?_
        refine mOp_call rfl (by go_simp) 22 _ #[.slice pm mk.length qm, .slice py mk.length qy] (fun w => by go_simp) rfl ?_
        rintro _ ⟨sg6, rfl⟩
        refine (lwSame_yes _ _ _ _ _ _ mk _ rfl rfl (rm.keep sg6.h) (ry.keep sg6.h)).mono ?_
        rintro e wg6 ⟨rfl, hwg⟩
        subst hwg
        refine ⟨_, rfl, ⟨⟨sg6.w, Below.refl _ _⟩, rfl⟩, ?_⟩
        have hbg : Below _ _ sg6.w := sg6.h
        replace gc0 := HW.down gc0 hbg
        replace gc1 := HW.down gc1 hbg
        replace gc2 := HW.down gc2 hbg
        replace gm1 := HW.down gm1 hbg
        replace gl0 := HW.down gl0 hbg
        replace ga0 := HW.down ga0 hbg
        replace ga1 := HW.down ga1 hbg
        replace ga2 := HW.down ga2 hbg
        replace ga3 := HW.down ga3 hbg
        replace ga4 := HW.down ga4 hbg
        replace gb0 := HW.down gb0 hbg
        replace gb5 := HW.down gb5 hbg
        replace gk1 := HW.down gk1 hbg
        replace gd0 := HW.down gd0 hbg
        replace rx := rx.keep hbg
        replace rc := rc.keep hbg
        replace rm := rm.keep hbg
        replace ra1 := ra1.keep hbg
        replace RS := RS.keep hbg
        replace ry := ry.keep hbg
        replace BW := Below.step BW hbg
        replace hne := HW.some sg6.w
        clear hbg
        generalize sg6.w = wg6 at *
        clear sg6
        refine wpM_more [70] 1 0 rfl (by kernel_rfl) (by kernel_rfl) (by kernel_rfl) (by kernel_rfl) ?_
        simp only [opsAt, List.getElem?_toArray, List.getElem?_cons_zero, List.getElem?_cons_succ]
        go_simp
        repeat (go_big_quiet_step (fail))
        refine wpQuiet_nil ?_
        refine wpM_end (by kernel_rfl) rfl (by kernel_rfl) (by decide) ?_
        rintro _ ⟨sgz, rfl⟩
        simp only [List.drop_succ_cons, List.drop_zero]
        go_wp2
        go_ret
        exact ⟨rfl, Below.step BW sgz.h⟩
  · have dk : (maC x r ctx c place != 0) = true := by rw [bne_iff_ne]; exact h0
    have hm : maD x r ctx c place = (maC x r ctx c place, []) := by rw [maD, if_neg h0]
    obtain ⟨k, HK⟩ : ∃ k, Hid (maC x r ctx c place = k) := ⟨_, rfl⟩
    have KS : Hid (∀ W, Rd W px qx x → Rd W pc qc ctx → Calls Tryz.prog 17 #[.slice px x.length qx, .int .i64 r, .slice pc ctx.length qc, .agg #[.int .i64 c.1, .int .i64 c.2.1, .int .i64 c.2.2], .int .i64 place] W fun e w' => ∃ u, e = .returned (.agg #[.int .i64 k, u]) ∧ Own w' W.heap.size u [] ∧ Below W.heap.size W w') := fun W h1 h2 => by
      have h := specMa_c px pc qx qc x ctx r c place W h1 h2
      rw [hm, HK.out] at h
      exact h
    rw [hm, HK.out] at KM
    rw [HK.out] at dk
    have ek : (k == k) = true := by simp
    have F0 := bytes_f0
    clear hm HK h0
    go_wp2_with fail
    generalize w1.alloc (.cells #[.int .i64 c.1, .int .i64 c.2.1, .int .i64 c.2.2] 41) = V at *
    generalize w1.heap.size = gc at *
    refine KM.mono ?_
    rintro e w2 ⟨u2, rfl, k2, hb2⟩
    obtain ⟨pm, qm, rfl, -⟩ := k2.rd
    have hl2 := alloc_below w2 (.cells #[.int .i64 k, .slice pm ([] : List UInt8).length qm] 45)
    have M := Arr.new w2 [.int .i64 k, .slice pm ([] : List UInt8).length qm] 45
    have hb3 := Below.step hb2 hl2
    replace C := C.stay hb3
    replace rx := rx.keep hb3
    replace rc := rc.keep hb3
    replace BW := Below.step BW hb3
    clear KM k2 hb2 hl2 hb3 c0 c1 c2
    have c0 := (C.cell 0).trans (show _ = some _ from rfl)
    have c1 := (C.cell 1).trans (show _ = some _ from rfl)
    have c2 := (C.cell 2).trans (show _ = some _ from rfl)
    have m0 := (M.cell 0).trans (show _ = some _ from rfl)
    clear M C
    simp only [List.length_nil] at *
    go_wp2_with fail
    generalize w2.alloc (.cells #[.int .i64 k, .slice pm 0 qm] 45) = V2 at *
    apply share
    case h =>
      intro JN
      have BB := Below.refl V2.heap.size V2
      have hne := HW.some V2
      have g0 := HW.at (c0)
      have g1 := HW.at (c1)
      have g2 := HW.at (c2)
      have g3 := HW.at (m0)
      refine wp_region_pick [0, 1, 2, 3, 4, 7, 8] 10 3 1 rfl rfl rfl (by kernel_rfl) (by kernel_rfl) (by kernel_rfl) (by kernel_rfl) ?_
      simp only [opsAt, List.getElem?_toArray, List.getElem?_cons_zero, List.getElem?_cons_succ]
      repeat (go_big_quiet_step (fail))
      refine wpQuiet_nil ?_
      clear g0 g1 g2 g3
      refine wpM_only (i := 5) (by kernel_rfl) ?_
      refine mOp_call rfl (by go_simp) 17 _ #[.slice px x.length qx, .int .i64 r, .slice pc ctx.length qc, .agg #[.int .i64 c.1, .int .i64 c.2.1, .int .i64 c.2.2], .int .i64 place] (fun w => by go_simp) rfl ?_
      rintro _ ⟨sg, rfl⟩
      refine (KS.out _ (rx.keep (Below.step BB sg.h)) (rc.keep (Below.step BB sg.h))).mono ?_
      rintro e wg1 ⟨us, rfl, ks, hbx⟩
      obtain ⟨ps, qs, rfl, -⟩ := ks.rd
      have hbg := Below.step sg.h hbx
      refine ⟨_, rfl, ⟨⟨wg1, hbx⟩, rfl⟩, ?_⟩
      replace BB := Below.step BB hbg
      clear hbg hbx sg ks
      replace hne := HW.some wg1
      refine wpM_more [6, 9] 2 0 rfl (by kernel_rfl) (by kernel_rfl) (by kernel_rfl) (by kernel_rfl) ?_
      simp only [opsAt, List.getElem?_toArray, List.getElem?_cons_zero, List.getElem?_cons_succ]
      go_simp
      repeat (go_big_quiet_step (fail))
      refine wpQuiet_nil ?_
      refine wpM_end (by kernel_rfl) rfl (by kernel_rfl) (by decide) ?_
      rintro _ ⟨sz, rfl⟩
      simp only [List.drop_succ_cons, List.drop_zero]
      go_simp
      replace BB := Below.step BB sz.h
      clear hne
      generalize sz.w = W at *
      clear sz
      revert BB
      revert qs
      revert ps
      revert W
      exact JN.out
    intro W ps qs BB
    go_wp2
    go_ret
    exact ⟨rfl, Below.step BW BB⟩
end Go.Proofs.YtflhoefocjmihaaGreatDoor

