/- MakeAuth of the program answers as the specification's, code and bytes, leaves its arguments alone, and its answer owns its memory, behind another call too; the two tables of the program's text are tied to it by the card. For every argument; no condition. -/
import Derived.Test.YtdbpnibcblelbaaGreatDoorRows
import Derived.WalkKit
import Derived.ProofKit
import Derived.OpenShut
import Derived.ChangeOld
import Derived.Below
import Derived.Test.YtdbpnibcblelbaaGreatDoorJoint5
import Derived.OpenVars
import Derived.LaidMore
import Derived.Stop.Joined
import Derived.SevenTiedAt
import Derived.Test.YtdbpnibcblelbaaGreatDoorJoint7
import Derived.Test.YtdbpnibcblelbaaGreatDoorAuthJ
import Derived.Test.YtdbpnibcblelbaaGreatDoorJoint11
import Derived.Test.YtdbpnibcblelbaaGreatDoorJoint8
import Derived.Test.YtdbpnibcblelbaaGreatDoorJoint31
import Derived.Test.YtdbpnibcblelbaaGreatDoorCards
import Derived.Test.YtdbpnibcblelbaaGreatDoorTie
namespace Go.Proofs.YtdbpnibcblelbaaGreatDoor.fnExactMakeAuth
open Go.ChangeShapes Go.WideShapes Go.ChangeAt Go.RowKit
set_option linter.unusedVariables false

theorem own : ownKnob Tryz.prog.godebug = none := by kernel_rfl
theorem laidOut : laidOutB Tryz.prog = true := by kernel_rfl

/-! The walk. -/
set_option maxRecDepth 4000 in
set_option maxHeartbeats 4000000 in
theorem walk (bs0 : List UInt8) (p0 : Option Addr) (q0 : Nat) (a1 : Int) (bs2 : List UInt8) (p2 : Option Addr) (q2 : Nat) (x3 : _) (cs3 : List Value) (a4 : Int) (w : World) (r0 : Rd w p0 q0 bs0) (f1 : (Lit.int .i64 a1).wf = true) (r2 : Rd w p2 q2 bs2) (r3 : Cod.rep certC w x3 cs3) (f4 : (Lit.int .i64 a4).wf = true) (hT : Tabs w) :
    Calls Tryz.prog 6 #[.slice p0 bs0.length q0, .int .i64 a1, .slice p2 bs2.length q2, .agg cs3.toArray, .int .i64 a4] w fun e w' => e = .returned (.bool true) ∧ Below w.heap.size w w' := by
  have hcs := cert_rep r3
  subst hcs
  change Calls _ _ #[.slice p0 bs0.length q0, .int .i64 a1, .slice p2 bs2.length q2, .agg #[.int .i64 x3.1, .int .i64 x3.2.1, .int .i64 x3.2.2], .int .i64 a4] _ _
  clear r3
  have hlen := maD_len bs0 a1 bs2 x3 a4
  by_cases hl0 : 1048576 < bs0.length
  · go_enter Tryz.func6, Tryz.ntmps6
    go_wp2
    go_ret
    exact ⟨rfl, alloc_below _ _⟩
  replace hl0 : bs0.length ≤ 1048576 := by omega
  by_cases hl2 : 1048576 < bs2.length
  · go_enter Tryz.func6, Tryz.ntmps6
    go_wp2
    go_ret
    exact ⟨rfl, alloc_below _ _⟩
  replace hl2 : bs2.length ≤ 1048576 := by omega
  go_enter Tryz.func6, Tryz.ntmps6
  go_wp2_with fail
  have BW := alloc_below w (.cells #[.int .i64 x3.1, .int .i64 x3.2.1, .int .i64 x3.2.2] 69)
  have sP := (Has.new (Below.refl _ (w.alloc (.cells #[.int .i64 x3.1, .int .i64 x3.2.1, .int .i64 x3.2.2] 69)))).win
  have z0 : Hid (w.heap.size + 1 ≤ (w.alloc (.cells #[.int .i64 x3.1, .int .i64 x3.2.1, .int .i64 x3.2.2] 69)).heap.size) := by show _ ≤ _; rw [size_alloc]; exact Nat.le_refl _
  generalize w.alloc (.cells #[.int .i64 x3.1, .int .i64 x3.2.1, .int .i64 x3.2.2] 69) = w0 at *
  go_wp2_with fail
  apply share
  case h =>
    intro JN
    have BB := Below.refl w0.heap.size w0
    have hne := HW.some w0
    have gsP0 := HW.at (sP.now 0 _ rfl)
    have gsP1 := HW.at (sP.now 1 _ rfl)
    have gsP2 := HW.at (sP.now 2 _ rfl)
    refine wp_region_pick [0, 2, 3, 5, 7] 10 5 1 rfl rfl rfl (by kernel_rfl) (by kernel_rfl) (by kernel_rfl) (by kernel_rfl) ?_
    simp only [opsAt, List.getElem?_toArray, List.getElem?_cons_zero, List.getElem?_cons_succ]
    repeat (go_big_quiet_step (fail))
    refine wpQuiet_nil ?_
    clear gsP0 gsP1 gsP2
    refine wpM_two (i := 1) (j := 9) (by kernel_rfl) ?_ ?_
    · skip
      refine mOp_call rfl (by go_simp) 27 _ #[.slice p0 bs0.length q0] (fun w => by go_simp) rfl ?_
      rintro _ ⟨sg, rfl⟩
      refine (toByteS_c _ _ bs0 _ ((r0.keep BW).keep (Below.step BB sg.h)) hl0).mono ?_
      rintro e wg1 ⟨uz0, rfl, kz0, hbx⟩
      obtain ⟨pz0s, qz0s, rfl, -⟩ := kz0.rd
      have hbg := Below.step sg.h hbx
      refine ⟨_, rfl, ⟨⟨wg1, hbx⟩, rfl⟩, ?_⟩
      have Rz0 := Rd.own kz0
      replace BB := Below.step BB hbg
      clear hbg hbx sg kz0
      replace hne := HW.some wg1
      refine wpM_two (i := 4) (j := 9) (by kernel_rfl) ?_ ?_
      · skip
        refine mOp_call rfl (by go_simp) 27 _ #[.slice p2 bs2.length q2] (fun w => by go_simp) rfl ?_
        rintro _ ⟨sg, rfl⟩
        refine (toByteS_c _ _ bs2 _ ((r2.keep BW).keep (Below.step BB sg.h)) hl2).mono ?_
        rintro e wg2 ⟨uz2, rfl, kz2, hbx⟩
        obtain ⟨pz2s, qz2s, rfl, -⟩ := kz2.rd
        have hbg := Below.step sg.h hbx
        refine ⟨_, rfl, ⟨⟨wg2, hbx⟩, rfl⟩, ?_⟩
        have Rz2 := Rd.own kz2
        replace Rz0 := Rz0.keep hbg
        replace BB := Below.step BB hbg
        clear hbg hbx sg kz2
        replace hne := HW.some wg2
        refine wpM_two (i := 6) (j := 9) (by kernel_rfl) ?_ ?_
        · skip
          refine mOp_call rfl (by go_simp) 28 _ #[.agg #[.int .i64 x3.1, .int .i64 x3.2.1, .int .i64 x3.2.2]] (fun w => by go_simp) rfl ?_
          rintro _ ⟨sg, rfl⟩
          refine (toCert_c x3 _).mono ?_
          rintro e wg3 ⟨rfl, hbx⟩
          have hbg := Below.step sg.h hbx
          refine ⟨_, rfl, ⟨⟨wg3, hbx⟩, rfl⟩, ?_⟩
          replace Rz0 := Rz0.keep hbg
          replace Rz2 := Rz2.keep hbg
          replace BB := Below.step BB hbg
          clear hbg hbx sg
          replace hne := HW.some wg3
          refine wpM_two (i := 8) (j := 9) (by kernel_rfl) ?_ ?_
          · skip
            refine mOp_call rfl (by go_simp) 16 _ #[.slice pz0s bs0.length qz0s, .int .i64 a1, .slice pz2s bs2.length qz2s, .agg #[.int .i64 x3.1, .int .i64 x3.2.1, .int .i64 x3.2.2], .int .i64 a4] (fun w => by go_simp) rfl ?_
            rintro _ ⟨sg, rfl⟩
            refine (specMa_c pz0s pz2s qz0s qz2s bs0 bs2 a1 x3 a4 _ (Rz0.keep sg.h) (Rz2.keep sg.h)).mono ?_
            rintro e wg4 ⟨uss, rfl, kas, hbx⟩
            obtain ⟨ps, qs, rfl, -⟩ := kas.rd
            have hbg := Below.step sg.h hbx
            refine ⟨_, rfl, ⟨⟨wg4, hbx⟩, rfl⟩, ?_⟩
            have KAs := (kas.lower ((Below.step BB sg.h)).size : Own _ w0.heap.size _ _)
            replace Rz0 := Rz0.keep hbg
            replace Rz2 := Rz2.keep hbg
            replace BB := Below.step BB hbg
            clear hbg hbx sg kas
            replace hne := HW.some wg4
            refine wpM_only (i := 9) (by kernel_rfl) ?_
            refine mOp_make rfl (by go_simp) ?_
            rintro _ ⟨sg, rfl⟩
            refine ⟨.pointer (some ⟨sg.w.heap.size, 0, none⟩), sg.w.alloc (.cells #[.int .i64 0, .slice none 0 0] 43), by go_simp, ⟨⟨_, alloc_below _ _⟩, rfl⟩, ?_⟩
            have hbg := Below.step sg.h (alloc_below sg.w (.cells #[.int .i64 0, .slice none 0 0] 43))
            have AZs := Arr.new sg.w [.int .i64 0, .slice none 0 0] 43
            have GZs := (show Hid (w0.heap.size ≤ sg.w.heap.size) from (Below.step BB sg.h).size)
            have NEs := (show ∀ k, (Value.slice ps (maD bs0 a1 bs2 x3 a4).2.length qs).ownBlock = some k → k ≠ sg.w.heap.size from fun k h e => by have h1 := KAs.lt k h; have h2 := sg.h.size; omega)
            replace Rz0 := Rz0.keep hbg
            replace Rz2 := Rz2.keep hbg
            replace KAs := KAs.stay hbg
            replace BB := Below.step BB hbg
            clear hbg
            replace hne := HW.some (sg.w.alloc (.cells #[.int .i64 0, .slice none 0 0] 43))
            generalize hW : (sg.w.alloc (.cells #[.int .i64 0, .slice none 0 0] 43)) = wg5 at *
            clear hW
            generalize sg.w.heap.size = gzs at *
            clear sg
            refine wpM_end (by kernel_rfl) rfl (by kernel_rfl) (by decide) ?_
            rintro _ ⟨sz, rfl⟩
            simp only [List.drop_succ_cons, List.drop_zero]
            go_simp
            replace Rz0 := Rz0.keep sz.h
            replace Rz2 := Rz2.keep sz.h
            replace KAs := KAs.stay sz.h
            replace AZs := AZs.stay sz.h
            replace BB := Below.step BB sz.h
            clear hne
            generalize sz.w = Ws at *
            clear sz
            revert NEs
            revert GZs
            revert AZs
            revert KAs
            revert Rz2
            revert Rz0
            revert BB
            revert gzs
            revert qs
            revert ps
            revert qz2s
            revert pz2s
            revert qz0s
            revert pz0s
            revert Ws
            exact JN.out
          · skip
            refine mOp_make rfl (by go_simp) ?_
            rintro _ ⟨sg, rfl⟩
            refine ⟨.pointer (some ⟨sg.w.heap.size, 0, none⟩), sg.w.alloc (.cells #[.int .i64 0, .slice none 0 0] 43), by go_simp, ⟨⟨_, alloc_below _ _⟩, rfl⟩, ?_⟩
            have hbg := Below.step sg.h (alloc_below sg.w (.cells #[.int .i64 0, .slice none 0 0] 43))
            have AZs := Arr.new sg.w [.int .i64 0, .slice none 0 0] 43
            have GZs := (show Hid (w0.heap.size ≤ sg.w.heap.size) from (Below.step BB sg.h).size)
            replace Rz0 := Rz0.keep hbg
            replace Rz2 := Rz2.keep hbg
            replace BB := Below.step BB hbg
            clear hbg
            replace hne := HW.some (sg.w.alloc (.cells #[.int .i64 0, .slice none 0 0] 43))
            generalize hW : (sg.w.alloc (.cells #[.int .i64 0, .slice none 0 0] 43)) = wg6 at *
            clear hW
            generalize sg.w.heap.size = gzs at *
            clear sg
            refine wpM_only (i := 8) (by kernel_rfl) ?_
            refine mOp_call rfl (by go_simp) 16 _ #[.slice pz0s bs0.length qz0s, .int .i64 a1, .slice pz2s bs2.length qz2s, .agg #[.int .i64 x3.1, .int .i64 x3.2.1, .int .i64 x3.2.2], .int .i64 a4] (fun w => by go_simp) rfl ?_
            rintro _ ⟨sg, rfl⟩
            refine (specMa_c pz0s pz2s qz0s qz2s bs0 bs2 a1 x3 a4 _ (Rz0.keep sg.h) (Rz2.keep sg.h)).mono ?_
            rintro e wg7 ⟨uss, rfl, kas, hbx⟩
            obtain ⟨ps, qs, rfl, -⟩ := kas.rd
            have hbg := Below.step sg.h hbx
            refine ⟨_, rfl, ⟨⟨wg7, hbx⟩, rfl⟩, ?_⟩
            have KAs := (kas.lower ((Below.step BB sg.h)).size : Own _ w0.heap.size _ _)
            have NEs := (show ∀ k, (Value.slice ps (maD bs0 a1 bs2 x3 a4).2.length qs).ownBlock = some k → k ≠ gzs from fun k h e => by have h1 := kas.ge k h; have h2 := AZs.lt; have h3 := sg.h.size; omega)
            replace Rz0 := Rz0.keep hbg
            replace Rz2 := Rz2.keep hbg
            replace AZs := AZs.stay hbg
            replace BB := Below.step BB hbg
            clear hbg hbx sg kas
            replace hne := HW.some wg7
            refine wpM_end (by kernel_rfl) rfl (by kernel_rfl) (by decide) ?_
            rintro _ ⟨sz, rfl⟩
            simp only [List.drop_succ_cons, List.drop_zero]
            go_simp
            replace Rz0 := Rz0.keep sz.h
            replace Rz2 := Rz2.keep sz.h
            replace AZs := AZs.stay sz.h
            replace KAs := KAs.stay sz.h
            replace BB := Below.step BB sz.h
            clear hne
            generalize sz.w = Ws at *
            clear sz
            revert NEs
            revert GZs
            revert AZs
            revert KAs
            revert Rz2
            revert Rz0
            revert BB
            revert gzs
            revert qs
            revert ps
            revert qz2s
            revert pz2s
            revert qz0s
            revert pz0s
            revert Ws
            exact JN.out
        · skip
          refine mOp_make rfl (by go_simp) ?_
          rintro _ ⟨sg, rfl⟩
          refine ⟨.pointer (some ⟨sg.w.heap.size, 0, none⟩), sg.w.alloc (.cells #[.int .i64 0, .slice none 0 0] 43), by go_simp, ⟨⟨_, alloc_below _ _⟩, rfl⟩, ?_⟩
          have hbg := Below.step sg.h (alloc_below sg.w (.cells #[.int .i64 0, .slice none 0 0] 43))
          have AZs := Arr.new sg.w [.int .i64 0, .slice none 0 0] 43
          have GZs := (show Hid (w0.heap.size ≤ sg.w.heap.size) from (Below.step BB sg.h).size)
          replace Rz0 := Rz0.keep hbg
          replace Rz2 := Rz2.keep hbg
          replace BB := Below.step BB hbg
          clear hbg
          replace hne := HW.some (sg.w.alloc (.cells #[.int .i64 0, .slice none 0 0] 43))
          generalize hW : (sg.w.alloc (.cells #[.int .i64 0, .slice none 0 0] 43)) = wg8 at *
          clear hW
          generalize sg.w.heap.size = gzs at *
          clear sg
          refine wpM_only (i := 6) (by kernel_rfl) ?_
          refine mOp_call rfl (by go_simp) 28 _ #[.agg #[.int .i64 x3.1, .int .i64 x3.2.1, .int .i64 x3.2.2]] (fun w => by go_simp) rfl ?_
          rintro _ ⟨sg, rfl⟩
          refine (toCert_c x3 _).mono ?_
          rintro e wg9 ⟨rfl, hbx⟩
          have hbg := Below.step sg.h hbx
          refine ⟨_, rfl, ⟨⟨wg9, hbx⟩, rfl⟩, ?_⟩
          replace Rz0 := Rz0.keep hbg
          replace Rz2 := Rz2.keep hbg
          replace AZs := AZs.stay hbg
          replace BB := Below.step BB hbg
          clear hbg hbx sg
          replace hne := HW.some wg9
          refine wpM_only (i := 8) (by kernel_rfl) ?_
          refine mOp_call rfl (by go_simp) 16 _ #[.slice pz0s bs0.length qz0s, .int .i64 a1, .slice pz2s bs2.length qz2s, .agg #[.int .i64 x3.1, .int .i64 x3.2.1, .int .i64 x3.2.2], .int .i64 a4] (fun w => by go_simp) rfl ?_
          rintro _ ⟨sg, rfl⟩
          refine (specMa_c pz0s pz2s qz0s qz2s bs0 bs2 a1 x3 a4 _ (Rz0.keep sg.h) (Rz2.keep sg.h)).mono ?_
          rintro e wg10 ⟨uss, rfl, kas, hbx⟩
          obtain ⟨ps, qs, rfl, -⟩ := kas.rd
          have hbg := Below.step sg.h hbx
          refine ⟨_, rfl, ⟨⟨wg10, hbx⟩, rfl⟩, ?_⟩
          have KAs := (kas.lower ((Below.step BB sg.h)).size : Own _ w0.heap.size _ _)
          have NEs := (show ∀ k, (Value.slice ps (maD bs0 a1 bs2 x3 a4).2.length qs).ownBlock = some k → k ≠ gzs from fun k h e => by have h1 := kas.ge k h; have h2 := AZs.lt; have h3 := sg.h.size; omega)
          replace Rz0 := Rz0.keep hbg
          replace Rz2 := Rz2.keep hbg
          replace AZs := AZs.stay hbg
          replace BB := Below.step BB hbg
          clear hbg hbx sg kas
          replace hne := HW.some wg10
          refine wpM_end (by kernel_rfl) rfl (by kernel_rfl) (by decide) ?_
          rintro _ ⟨sz, rfl⟩
          simp only [List.drop_succ_cons, List.drop_zero]
          go_simp
          replace Rz0 := Rz0.keep sz.h
          replace Rz2 := Rz2.keep sz.h
          replace AZs := AZs.stay sz.h
          replace KAs := KAs.stay sz.h
          replace BB := Below.step BB sz.h
          clear hne
          generalize sz.w = Ws at *
          clear sz
          revert NEs
          revert GZs
          revert AZs
          revert KAs
          revert Rz2
          revert Rz0
          revert BB
          revert gzs
          revert qs
          revert ps
          revert qz2s
          revert pz2s
          revert qz0s
          revert pz0s
          revert Ws
          exact JN.out
      · skip
        refine mOp_make rfl (by go_simp) ?_
        rintro _ ⟨sg, rfl⟩
        refine ⟨.pointer (some ⟨sg.w.heap.size, 0, none⟩), sg.w.alloc (.cells #[.int .i64 0, .slice none 0 0] 43), by go_simp, ⟨⟨_, alloc_below _ _⟩, rfl⟩, ?_⟩
        have hbg := Below.step sg.h (alloc_below sg.w (.cells #[.int .i64 0, .slice none 0 0] 43))
        have AZs := Arr.new sg.w [.int .i64 0, .slice none 0 0] 43
        have GZs := (show Hid (w0.heap.size ≤ sg.w.heap.size) from (Below.step BB sg.h).size)
        replace Rz0 := Rz0.keep hbg
        replace BB := Below.step BB hbg
        clear hbg
        replace hne := HW.some (sg.w.alloc (.cells #[.int .i64 0, .slice none 0 0] 43))
        generalize hW : (sg.w.alloc (.cells #[.int .i64 0, .slice none 0 0] 43)) = wg11 at *
        clear hW
        generalize sg.w.heap.size = gzs at *
        clear sg
        refine wpM_only (i := 4) (by kernel_rfl) ?_
        refine mOp_call rfl (by go_simp) 27 _ #[.slice p2 bs2.length q2] (fun w => by go_simp) rfl ?_
        rintro _ ⟨sg, rfl⟩
        refine (toByteS_c _ _ bs2 _ ((r2.keep BW).keep (Below.step BB sg.h)) hl2).mono ?_
        rintro e wg12 ⟨uz2, rfl, kz2, hbx⟩
        obtain ⟨pz2s, qz2s, rfl, -⟩ := kz2.rd
        have hbg := Below.step sg.h hbx
        refine ⟨_, rfl, ⟨⟨wg12, hbx⟩, rfl⟩, ?_⟩
        have Rz2 := Rd.own kz2
        replace Rz0 := Rz0.keep hbg
        replace AZs := AZs.stay hbg
        replace BB := Below.step BB hbg
        clear hbg hbx sg kz2
        replace hne := HW.some wg12
        refine wpM_only (i := 6) (by kernel_rfl) ?_
        refine mOp_call rfl (by go_simp) 28 _ #[.agg #[.int .i64 x3.1, .int .i64 x3.2.1, .int .i64 x3.2.2]] (fun w => by go_simp) rfl ?_
        rintro _ ⟨sg, rfl⟩
        refine (toCert_c x3 _).mono ?_
        rintro e wg13 ⟨rfl, hbx⟩
        have hbg := Below.step sg.h hbx
        refine ⟨_, rfl, ⟨⟨wg13, hbx⟩, rfl⟩, ?_⟩
        replace Rz0 := Rz0.keep hbg
        replace AZs := AZs.stay hbg
        replace Rz2 := Rz2.keep hbg
        replace BB := Below.step BB hbg
        clear hbg hbx sg
        replace hne := HW.some wg13
        refine wpM_only (i := 8) (by kernel_rfl) ?_
        refine mOp_call rfl (by go_simp) 16 _ #[.slice pz0s bs0.length qz0s, .int .i64 a1, .slice pz2s bs2.length qz2s, .agg #[.int .i64 x3.1, .int .i64 x3.2.1, .int .i64 x3.2.2], .int .i64 a4] (fun w => by go_simp) rfl ?_
        rintro _ ⟨sg, rfl⟩
        refine (specMa_c pz0s pz2s qz0s qz2s bs0 bs2 a1 x3 a4 _ (Rz0.keep sg.h) (Rz2.keep sg.h)).mono ?_
        rintro e wg14 ⟨uss, rfl, kas, hbx⟩
        obtain ⟨ps, qs, rfl, -⟩ := kas.rd
        have hbg := Below.step sg.h hbx
        refine ⟨_, rfl, ⟨⟨wg14, hbx⟩, rfl⟩, ?_⟩
        have KAs := (kas.lower ((Below.step BB sg.h)).size : Own _ w0.heap.size _ _)
        have NEs := (show ∀ k, (Value.slice ps (maD bs0 a1 bs2 x3 a4).2.length qs).ownBlock = some k → k ≠ gzs from fun k h e => by have h1 := kas.ge k h; have h2 := AZs.lt; have h3 := sg.h.size; omega)
        replace Rz0 := Rz0.keep hbg
        replace AZs := AZs.stay hbg
        replace Rz2 := Rz2.keep hbg
        replace BB := Below.step BB hbg
        clear hbg hbx sg kas
        replace hne := HW.some wg14
        refine wpM_end (by kernel_rfl) rfl (by kernel_rfl) (by decide) ?_
        rintro _ ⟨sz, rfl⟩
        simp only [List.drop_succ_cons, List.drop_zero]
        go_simp
        replace Rz0 := Rz0.keep sz.h
        replace AZs := AZs.stay sz.h
        replace Rz2 := Rz2.keep sz.h
        replace KAs := KAs.stay sz.h
        replace BB := Below.step BB sz.h
        clear hne
        generalize sz.w = Ws at *
        clear sz
        revert NEs
        revert GZs
        revert AZs
        revert KAs
        revert Rz2
        revert Rz0
        revert BB
        revert gzs
        revert qs
        revert ps
        revert qz2s
        revert pz2s
        revert qz0s
        revert pz0s
        revert Ws
        exact JN.out
    · skip
      refine mOp_make rfl (by go_simp) ?_
      rintro _ ⟨sg, rfl⟩
      refine ⟨.pointer (some ⟨sg.w.heap.size, 0, none⟩), sg.w.alloc (.cells #[.int .i64 0, .slice none 0 0] 43), by go_simp, ⟨⟨_, alloc_below _ _⟩, rfl⟩, ?_⟩
      have hbg := Below.step sg.h (alloc_below sg.w (.cells #[.int .i64 0, .slice none 0 0] 43))
      have AZs := Arr.new sg.w [.int .i64 0, .slice none 0 0] 43
      have GZs := (show Hid (w0.heap.size ≤ sg.w.heap.size) from (Below.step BB sg.h).size)
      replace BB := Below.step BB hbg
      clear hbg
      replace hne := HW.some (sg.w.alloc (.cells #[.int .i64 0, .slice none 0 0] 43))
      generalize hW : (sg.w.alloc (.cells #[.int .i64 0, .slice none 0 0] 43)) = wg15 at *
      clear hW
      generalize sg.w.heap.size = gzs at *
      clear sg
      refine wpM_only (i := 1) (by kernel_rfl) ?_
      refine mOp_call rfl (by go_simp) 27 _ #[.slice p0 bs0.length q0] (fun w => by go_simp) rfl ?_
      rintro _ ⟨sg, rfl⟩
      refine (toByteS_c _ _ bs0 _ ((r0.keep BW).keep (Below.step BB sg.h)) hl0).mono ?_
      rintro e wg16 ⟨uz0, rfl, kz0, hbx⟩
      obtain ⟨pz0s, qz0s, rfl, -⟩ := kz0.rd
      have hbg := Below.step sg.h hbx
      refine ⟨_, rfl, ⟨⟨wg16, hbx⟩, rfl⟩, ?_⟩
      have Rz0 := Rd.own kz0
      replace AZs := AZs.stay hbg
      replace BB := Below.step BB hbg
      clear hbg hbx sg kz0
      replace hne := HW.some wg16
      refine wpM_only (i := 4) (by kernel_rfl) ?_
      refine mOp_call rfl (by go_simp) 27 _ #[.slice p2 bs2.length q2] (fun w => by go_simp) rfl ?_
      rintro _ ⟨sg, rfl⟩
      refine (toByteS_c _ _ bs2 _ ((r2.keep BW).keep (Below.step BB sg.h)) hl2).mono ?_
      rintro e wg17 ⟨uz2, rfl, kz2, hbx⟩
      obtain ⟨pz2s, qz2s, rfl, -⟩ := kz2.rd
      have hbg := Below.step sg.h hbx
      refine ⟨_, rfl, ⟨⟨wg17, hbx⟩, rfl⟩, ?_⟩
      have Rz2 := Rd.own kz2
      replace AZs := AZs.stay hbg
      replace Rz0 := Rz0.keep hbg
      replace BB := Below.step BB hbg
      clear hbg hbx sg kz2
      replace hne := HW.some wg17
      refine wpM_only (i := 6) (by kernel_rfl) ?_
      refine mOp_call rfl (by go_simp) 28 _ #[.agg #[.int .i64 x3.1, .int .i64 x3.2.1, .int .i64 x3.2.2]] (fun w => by go_simp) rfl ?_
      rintro _ ⟨sg, rfl⟩
      refine (toCert_c x3 _).mono ?_
      rintro e wg18 ⟨rfl, hbx⟩
      have hbg := Below.step sg.h hbx
      refine ⟨_, rfl, ⟨⟨wg18, hbx⟩, rfl⟩, ?_⟩
      replace AZs := AZs.stay hbg
      replace Rz0 := Rz0.keep hbg
      replace Rz2 := Rz2.keep hbg
      replace BB := Below.step BB hbg
      clear hbg hbx sg
      replace hne := HW.some wg18
      refine wpM_only (i := 8) (by kernel_rfl) ?_
      refine mOp_call rfl (by go_simp) 16 _ #[.slice pz0s bs0.length qz0s, .int .i64 a1, .slice pz2s bs2.length qz2s, .agg #[.int .i64 x3.1, .int .i64 x3.2.1, .int .i64 x3.2.2], .int .i64 a4] (fun w => by go_simp) rfl ?_
      rintro _ ⟨sg, rfl⟩
      refine (specMa_c pz0s pz2s qz0s qz2s bs0 bs2 a1 x3 a4 _ (Rz0.keep sg.h) (Rz2.keep sg.h)).mono ?_
      rintro e wg19 ⟨uss, rfl, kas, hbx⟩
      obtain ⟨ps, qs, rfl, -⟩ := kas.rd
      have hbg := Below.step sg.h hbx
      refine ⟨_, rfl, ⟨⟨wg19, hbx⟩, rfl⟩, ?_⟩
      have KAs := (kas.lower ((Below.step BB sg.h)).size : Own _ w0.heap.size _ _)
      have NEs := (show ∀ k, (Value.slice ps (maD bs0 a1 bs2 x3 a4).2.length qs).ownBlock = some k → k ≠ gzs from fun k h e => by have h1 := kas.ge k h; have h2 := AZs.lt; have h3 := sg.h.size; omega)
      replace AZs := AZs.stay hbg
      replace Rz0 := Rz0.keep hbg
      replace Rz2 := Rz2.keep hbg
      replace BB := Below.step BB hbg
      clear hbg hbx sg kas
      replace hne := HW.some wg19
      refine wpM_end (by kernel_rfl) rfl (by kernel_rfl) (by decide) ?_
      rintro _ ⟨sz, rfl⟩
      simp only [List.drop_succ_cons, List.drop_zero]
      go_simp
      replace AZs := AZs.stay sz.h
      replace Rz0 := Rz0.keep sz.h
      replace Rz2 := Rz2.keep sz.h
      replace KAs := KAs.stay sz.h
      replace BB := Below.step BB sz.h
      clear hne
      generalize sz.w = Ws at *
      clear sz
      revert NEs
      revert GZs
      revert AZs
      revert KAs
      revert Rz2
      revert Rz0
      revert BB
      revert gzs
      revert qs
      revert ps
      revert qz2s
      revert pz2s
      revert qz0s
      revert pz0s
      revert Ws
      exact JN.out
  intro Ws pz0s qz0s pz2s qz2s ps qs gzs BB Rz0 Rz2 KAs AZs GZs NEs
  have hress : Hid ((Tryz.prog.info? 43).map (·.size) = some 2) := by show _ = _; kernel_rfl
  refine wpList_store_row rfl 43 _ _ rfl gzs #[.int .i64 (maD bs0 a1 bs2 x3 a4).1, .slice ps (maD bs0 a1 bs2 x3 a4).2.length qs] rfl rfl 43 #[.int .i64 0, .slice none 0 0] AZs hress.out rfl (by simp [Value.oneCell']) ?_
  have A2s := (Loc.arr (AZs.row [.int .i64 (maD bs0 a1 bs2 x3 a4).1, .slice ps (maD bs0 a1 bs2 x3 a4).2.length qs])).1
  have hb1 : Below w0.heap.size w0 (Ws.setRow gzs #[.int .i64 (maD bs0 a1 bs2 x3 a4).1, .slice ps (maD bs0 a1 bs2 x3 a4).2.length qs]) := Below.row BB GZs.out _
  replace KAs := KAs.row NEs #[.int .i64 (maD bs0 a1 bs2 x3 a4).1, .slice ps (maD bs0 a1 bs2 x3 a4).2.length qs]
  have GLs : Hid (w0.heap.size ≤ gzs) := GZs.out
  have ZLs : gzs < Ws.heap.size := AZs.lt
  have SZs : (Ws.setRow gzs #[.int .i64 (maD bs0 a1 bs2 x3 a4).1, .slice ps (maD bs0 a1 bs2 x3 a4).2.length qs]).heap.size = Ws.heap.size := size_setRow _ _ _
  clear BB AZs GZs NEs Rz0 Rz2
  generalize Ws.setRow gzs #[.int .i64 (maD bs0 a1 bs2 x3 a4).1, .slice ps (maD bs0 a1 bs2 x3 a4).2.length qs] = w1 at *
  rw [← SZs] at ZLs
  clear SZs
  have gks : Hid (∀ k, k ∈ (Value.slice ps (maD bs0 a1 bs2 x3 a4).2.length qs).ownBlock.toList → w0.heap.size ≤ k ∧ k < w1.heap.size) := fun k hk => KAs.ins k hk
  have ks := KAs.win (Nat.le_refl _) gks.out
  have sA := Win.wide (Has.win A2s) GLs.out ZLs (Nat.le_refl _)
  clear KAs A2s GLs ZLs hress
  have z1 : Hid (w0.heap.size ≤ w1.heap.size) := hb1.size
  replace sP := sP.stay hb1
  replace BW := Below.step BW hb1
  clear hb1
  go_simp
  go_wp2_with fail
  refine (toByteS_c _ _ bs0 _ (r0.keep BW) hl0).mono ?_
  rintro e w2 ⟨u0, rfl, k0, hb2⟩
  obtain ⟨pc0, qc0, rfl, -⟩ := k0.rd
  have gk0 : Hid (∀ k, k ∈ _ → w1.heap.size ≤ k ∧ k < w2.heap.size) := fun k hk => ⟨by have h := (k0.ins k hk).1; exact h, (k0.ins k hk).2⟩
  replace k0 := k0.win (Nat.le_refl _) gk0.out
  have z2 : Hid (w1.heap.size ≤ w2.heap.size) := hb2.size
  replace sP := sP.stay hb2
  replace ks := ks.stay hb2
  replace sA := sA.stay hb2
  replace BW := Below.step BW hb2
  clear hb2
  go_wp2_with fail
  refine (toByteS_c _ _ bs2 _ (r2.keep BW) hl2).mono ?_
  rintro e w3 ⟨u1, rfl, k1, hb3⟩
  obtain ⟨pc1, qc1, rfl, -⟩ := k1.rd
  have gk1 : Hid (∀ k, k ∈ _ → w2.heap.size ≤ k ∧ k < w3.heap.size) := fun k hk => ⟨by have h := (k1.ins k hk).1; exact h, (k1.ins k hk).2⟩
  replace k1 := k1.win (Nat.le_refl _) gk1.out
  have z3 : Hid (w2.heap.size ≤ w3.heap.size) := hb3.size
  replace sP := sP.stay hb3
  replace ks := ks.stay hb3
  replace sA := sA.stay hb3
  replace k0 := k0.stay hb3
  replace BW := Below.step BW hb3
  clear hb3
  have csP0 := sP.now 0 _ rfl
  have csP1 := sP.now 1 _ rfl
  have csP2 := sP.now 2 _ rfl
  have zsP := Has.lt sP.now
  go_wp2_with fail
  refine (toCert_c x3 _).mono ?_
  rintro e w4 ⟨rfl, hb4⟩
  have z4 : Hid (w3.heap.size ≤ w4.heap.size) := hb4.size
  replace sP := sP.stay hb4
  replace ks := ks.stay hb4
  replace sA := sA.stay hb4
  replace k0 := k0.stay hb4
  replace k1 := k1.stay hb4
  replace BW := Below.step BW hb4
  clear hb4 csP0 csP1 csP2 zsP
  go_wp2_with fail
  refine (implMa_c pc0 pc1 qc0 qc1 bs0 bs2 a1 x3 a4 _ (Rd.own k0.now) (Rd.own k1.now) (hT.keep BW)).mono ?_
  rintro e w5 ⟨vg, rfl, kg, hb5⟩
  obtain ⟨pg, qg, rfl, -⟩ := kg.rd
  have gkg : Hid (∀ k, k ∈ _ → w4.heap.size ≤ k ∧ k < w5.heap.size) := fun k hk => ⟨by have h := (kg.ins k hk).1; exact h, (kg.ins k hk).2⟩
  replace kg := kg.win (Nat.le_refl _) gkg.out
  have z5 : Hid (w4.heap.size ≤ w5.heap.size) := hb5.size
  replace sP := sP.stay hb5
  replace ks := ks.stay hb5
  replace sA := sA.stay hb5
  replace k0 := k0.stay hb5
  replace k1 := k1.stay hb5
  replace BW := Below.step BW hb5
  clear hb5
  have csA0 := sA.now 0 _ rfl
  have csA1 := sA.now 1 _ rfl
  have zsA := Has.lt sA.now
  go_wp2_with fail
  refine (eqBytes2_c _ _ _ pg ps qg qs ((maD bs0 a1 bs2 x3 a4).2) _ (kg.stay (alloc_below _ _)).now (ks.stay (alloc_below _ _)).now).mono ?_
  rintro e w6 ⟨rfl, hb6⟩
  have sB := (Has.new hb6).win
  have z6 : Hid (w5.heap.size + 1 ≤ w6.heap.size) := size_lt hb6
  replace hb6 := Below.res hb6
  replace sP := sP.stay hb6
  replace ks := ks.stay hb6
  replace sA := sA.stay hb6
  replace k0 := k0.stay hb6
  replace k1 := k1.stay hb6
  replace kg := kg.stay hb6
  replace BW := Below.step BW hb6
  clear hb6 csA0 csA1 zsA
  go_wp2_with fail
  refine (toByteS_c _ _ bs0 _ (r0.keep BW) hl0).mono ?_
  rintro e w7 ⟨u2, rfl, k2, hb7⟩
  obtain ⟨pc2, qc2, rfl, -⟩ := k2.rd
  have gk2 : Hid (∀ k, k ∈ _ → w6.heap.size ≤ k ∧ k < w7.heap.size) := fun k hk => ⟨by have h := (k2.ins k hk).1; exact h, (k2.ins k hk).2⟩
  replace k2 := k2.win (Nat.le_refl _) gk2.out
  have z7 : Hid (w6.heap.size ≤ w7.heap.size) := hb7.size
  replace sP := sP.stay hb7
  replace ks := ks.stay hb7
  replace sA := sA.stay hb7
  replace k0 := k0.stay hb7
  replace k1 := k1.stay hb7
  replace kg := kg.stay hb7
  replace sB := sB.stay hb7
  replace BW := Below.step BW hb7
  clear hb7
  go_wp2_with fail
  refine (eqByteS_c pc0 pc2 qc0 qc2 bs0 _ (Rd.own k0.now) (Rd.own k2.now)).mono ?_
  rintro e w8 ⟨rfl, hb8⟩
  have z8 : Hid (w7.heap.size ≤ w8.heap.size) := hb8.size
  replace sP := sP.stay hb8
  replace ks := ks.stay hb8
  replace sA := sA.stay hb8
  replace k0 := k0.stay hb8
  replace k1 := k1.stay hb8
  replace kg := kg.stay hb8
  replace sB := sB.stay hb8
  replace k2 := k2.stay hb8
  replace BW := Below.step BW hb8
  clear hb8
  clear k2
  go_wp2_with fail
  refine (toByteS_c _ _ bs2 _ (r2.keep BW) hl2).mono ?_
  rintro e w9 ⟨u3, rfl, k3, hb9⟩
  obtain ⟨pc3, qc3, rfl, -⟩ := k3.rd
  have gk3 : Hid (∀ k, k ∈ _ → w8.heap.size ≤ k ∧ k < w9.heap.size) := fun k hk => ⟨by have h := (k3.ins k hk).1; exact h, (k3.ins k hk).2⟩
  replace k3 := k3.win (Nat.le_refl _) gk3.out
  have z9 : Hid (w8.heap.size ≤ w9.heap.size) := hb9.size
  replace sP := sP.stay hb9
  replace ks := ks.stay hb9
  replace sA := sA.stay hb9
  replace k0 := k0.stay hb9
  replace k1 := k1.stay hb9
  replace kg := kg.stay hb9
  replace sB := sB.stay hb9
  replace BW := Below.step BW hb9
  clear hb9
  go_wp2_with fail
  refine (eqByteS_c pc1 pc3 qc1 qc3 bs2 _ (Rd.own k1.now) (Rd.own k3.now)).mono ?_
  rintro e w10 ⟨rfl, hb10⟩
  have z10 : Hid (w9.heap.size ≤ w10.heap.size) := hb10.size
  replace sP := sP.stay hb10
  replace ks := ks.stay hb10
  replace sA := sA.stay hb10
  replace k0 := k0.stay hb10
  replace k1 := k1.stay hb10
  replace kg := kg.stay hb10
  replace sB := sB.stay hb10
  replace k3 := k3.stay hb10
  replace BW := Below.step BW hb10
  clear hb10
  clear k3
  go_wp2_with fail
  refine (markByteS_cn (1 : Nat) _ _ bs0 _ k0.now (by omega) (by omega) (by omega)).mono ?_
  rintro e w11 ⟨rfl, -, hg⟩
  have z11 : Hid (w10.heap.size ≤ w11.heap.size) := hg.size
  have sg := grown_seg hg gk0.out
  replace sP := sP.seg sg (by have := z0.out; have := z1.out; have := z2.out; have := z3.out; have := z4.out; have := z5.out; have := z6.out; have := z7.out; have := z8.out; have := z9.out; have := z10.out; have := z11.out; omega)
  replace ks := ks.seg sg (by have := z0.out; have := z1.out; have := z2.out; have := z3.out; have := z4.out; have := z5.out; have := z6.out; have := z7.out; have := z8.out; have := z9.out; have := z10.out; have := z11.out; omega)
  replace sA := sA.seg sg (by have := z0.out; have := z1.out; have := z2.out; have := z3.out; have := z4.out; have := z5.out; have := z6.out; have := z7.out; have := z8.out; have := z9.out; have := z10.out; have := z11.out; omega)
  replace k1 := k1.seg sg (by have := z0.out; have := z1.out; have := z2.out; have := z3.out; have := z4.out; have := z5.out; have := z6.out; have := z7.out; have := z8.out; have := z9.out; have := z10.out; have := z11.out; omega)
  replace kg := kg.seg sg (by have := z0.out; have := z1.out; have := z2.out; have := z3.out; have := z4.out; have := z5.out; have := z6.out; have := z7.out; have := z8.out; have := z9.out; have := z10.out; have := z11.out; omega)
  replace sB := sB.seg sg (by have := z0.out; have := z1.out; have := z2.out; have := z3.out; have := z4.out; have := z5.out; have := z6.out; have := z7.out; have := z8.out; have := z9.out; have := z10.out; have := z11.out; omega)
  replace BW := Below.seg BW sg (by have := z0.out; have := z1.out; have := z2.out; have := z3.out; have := z4.out; have := z5.out; have := z6.out; have := z7.out; have := z8.out; have := z9.out; have := z10.out; have := z11.out; omega)
  clear hg sg k0
  obtain ⟨mk0, Hmk0⟩ : ∃ mk0 : Nat, Hid (mk0 = 1 + bs0.length) := ⟨_, rfl⟩
  rw [show (((1 : Nat) : Int) + (bs0.length : Int)) = (mk0 : Int) by have := Hmk0.out; omega]
  go_wp2_with fail
  refine (markByteS_cn (mk0 : Nat) _ _ bs2 _ k1.now (by omega) (by have := Hmk0.out; omega) (by omega)).mono ?_
  rintro e w12 ⟨rfl, -, hg⟩
  have z12 : Hid (w11.heap.size ≤ w12.heap.size) := hg.size
  have sg := grown_seg hg gk1.out
  replace sP := sP.seg sg (by have := z0.out; have := z1.out; have := z2.out; have := z3.out; have := z4.out; have := z5.out; have := z6.out; have := z7.out; have := z8.out; have := z9.out; have := z10.out; have := z11.out; have := z12.out; omega)
  replace ks := ks.seg sg (by have := z0.out; have := z1.out; have := z2.out; have := z3.out; have := z4.out; have := z5.out; have := z6.out; have := z7.out; have := z8.out; have := z9.out; have := z10.out; have := z11.out; have := z12.out; omega)
  replace sA := sA.seg sg (by have := z0.out; have := z1.out; have := z2.out; have := z3.out; have := z4.out; have := z5.out; have := z6.out; have := z7.out; have := z8.out; have := z9.out; have := z10.out; have := z11.out; have := z12.out; omega)
  replace kg := kg.seg sg (by have := z0.out; have := z1.out; have := z2.out; have := z3.out; have := z4.out; have := z5.out; have := z6.out; have := z7.out; have := z8.out; have := z9.out; have := z10.out; have := z11.out; have := z12.out; omega)
  replace sB := sB.seg sg (by have := z0.out; have := z1.out; have := z2.out; have := z3.out; have := z4.out; have := z5.out; have := z6.out; have := z7.out; have := z8.out; have := z9.out; have := z10.out; have := z11.out; have := z12.out; omega)
  replace BW := Below.seg BW sg (by have := z0.out; have := z1.out; have := z2.out; have := z3.out; have := z4.out; have := z5.out; have := z6.out; have := z7.out; have := z8.out; have := z9.out; have := z10.out; have := z11.out; have := z12.out; omega)
  clear hg sg k1
  obtain ⟨mk2, Hmk2⟩ : ∃ mk2 : Nat, Hid (mk2 = mk0 + bs2.length) := ⟨_, rfl⟩
  rw [show (((mk0 : Nat) : Int) + (bs2.length : Int)) = (mk2 : Int) by have := Hmk2.out; omega]
  have csA0 := sA.now 0 _ rfl
  have csA1 := sA.now 1 _ rfl
  have zsA := Has.lt sA.now
  have csB0 := sB.now 0 _ rfl
  have csB1 := sB.now 1 _ rfl
  have zsB := Has.lt sB.now
  go_wp2_with fail
  refine (eqBytes2_c _ _ _ pg ps qg qs ((maD bs0 a1 bs2 x3 a4).2) _ kg.now ks.now).mono ?_
  rintro e w13 ⟨rfl, hb13⟩
  have z13 : Hid (w12.heap.size ≤ w13.heap.size) := hb13.size
  replace sP := sP.stay hb13
  replace ks := ks.stay hb13
  replace sA := sA.stay hb13
  replace kg := kg.stay hb13
  replace sB := sB.stay hb13
  replace BW := Below.step BW hb13
  clear hb13 csA0 csA1 zsA csB0 csB1 zsB
  have csB0 := sB.now 0 _ rfl
  have csB1 := sB.now 1 _ rfl
  have zsB := Has.lt sB.now
  go_wp2_with fail
  refine (markBytes1_c _ _ _ ((maD bs0 a1 bs2 x3 a4).2) _ kg.now hlen).mono ?_
  rintro e w14 ⟨rfl, km, hg⟩
  have z14 : Hid (w13.heap.size ≤ w14.heap.size) := hg.size
  have sg := grown_seg hg gkg.out
  replace sP := sP.seg sg (by have := z0.out; have := z1.out; have := z2.out; have := z3.out; have := z4.out; have := z5.out; have := z6.out; have := z7.out; have := z8.out; have := z9.out; have := z10.out; have := z11.out; have := z12.out; have := z13.out; have := z14.out; omega)
  replace ks := ks.seg sg (by have := z0.out; have := z1.out; have := z2.out; have := z3.out; have := z4.out; have := z5.out; have := z6.out; have := z7.out; have := z8.out; have := z9.out; have := z10.out; have := z11.out; have := z12.out; have := z13.out; have := z14.out; omega)
  replace sA := sA.seg sg (by have := z0.out; have := z1.out; have := z2.out; have := z3.out; have := z4.out; have := z5.out; have := z6.out; have := z7.out; have := z8.out; have := z9.out; have := z10.out; have := z11.out; have := z12.out; have := z13.out; have := z14.out; omega)
  replace sB := sB.seg sg (by have := z0.out; have := z1.out; have := z2.out; have := z3.out; have := z4.out; have := z5.out; have := z6.out; have := z7.out; have := z8.out; have := z9.out; have := z10.out; have := z11.out; have := z12.out; have := z13.out; have := z14.out; omega)
  replace BW := Below.seg BW sg (by have := z0.out; have := z1.out; have := z2.out; have := z3.out; have := z4.out; have := z5.out; have := z6.out; have := z7.out; have := z8.out; have := z9.out; have := z10.out; have := z11.out; have := z12.out; have := z13.out; have := z14.out; omega)
  replace km := km.win (by have := z0.out; have := z1.out; have := z2.out; have := z3.out; have := z4.out; have := z5.out; have := z6.out; have := z7.out; have := z8.out; have := z9.out; have := z10.out; have := z11.out; have := z12.out; have := z13.out; have := z14.out; omega) gkg.out
  clear hg sg kg csB0 csB1 zsB
  have csB0 := sB.now 0 _ rfl
  have csB1 := sB.now 1 _ rfl
  have zsB := Has.lt sB.now
  go_wp2_with fail
  refine (heldBytes1_c _ _ pg qg ((maD bs0 a1 bs2 x3 a4).2).length _ km.now hlen).mono ?_
  rintro e w15 ⟨rfl, hb15⟩
  have z15 : Hid (w14.heap.size ≤ w15.heap.size) := hb15.size
  replace sP := sP.stay hb15
  replace ks := ks.stay hb15
  replace sA := sA.stay hb15
  replace sB := sB.stay hb15
  replace km := km.stay hb15
  replace BW := Below.step BW hb15
  clear hb15 csB0 csB1 zsB
  go_wp2_with fail
  apply share
  case h =>
    intro JN
    have BB := Below.refl w15.heap.size w15
    have hne := HW.some w15
    have gsP0 := HW.at (sP.now 0 _ rfl)
    have gsP1 := HW.at (sP.now 1 _ rfl)
    have gsP2 := HW.at (sP.now 2 _ rfl)
    refine wp_region_pick [0, 2, 3, 5, 7] 10 5 1 rfl rfl rfl (by kernel_rfl) (by kernel_rfl) (by kernel_rfl) (by kernel_rfl) ?_
    simp only [opsAt, List.getElem?_toArray, List.getElem?_cons_zero, List.getElem?_cons_succ]
    repeat (go_big_quiet_step (fail))
    refine wpQuiet_nil ?_
    clear gsP0 gsP1 gsP2
    refine wpM_two (i := 1) (j := 9) (by kernel_rfl) ?_ ?_
    · skip
      refine mOp_call rfl (by go_simp) 27 _ #[.slice p0 bs0.length q0] (fun w => by go_simp) rfl ?_
      rintro _ ⟨sg, rfl⟩
      refine (toByteS_c _ _ bs0 _ ((r0.keep BW).keep (Below.step BB sg.h)) hl0).mono ?_
      rintro e wg1 ⟨uz0, rfl, kz0, hbx⟩
      obtain ⟨pz0h, qz0h, rfl, -⟩ := kz0.rd
      have hbg := Below.step sg.h hbx
      refine ⟨_, rfl, ⟨⟨wg1, hbx⟩, rfl⟩, ?_⟩
      have Rz0 := Rd.own kz0
      replace BB := Below.step BB hbg
      clear hbg hbx sg kz0
      replace hne := HW.some wg1
      refine wpM_two (i := 4) (j := 9) (by kernel_rfl) ?_ ?_
      · skip
        refine mOp_call rfl (by go_simp) 27 _ #[.slice p2 bs2.length q2] (fun w => by go_simp) rfl ?_
        rintro _ ⟨sg, rfl⟩
        refine (toByteS_c _ _ bs2 _ ((r2.keep BW).keep (Below.step BB sg.h)) hl2).mono ?_
        rintro e wg2 ⟨uz2, rfl, kz2, hbx⟩
        obtain ⟨pz2h, qz2h, rfl, -⟩ := kz2.rd
        have hbg := Below.step sg.h hbx
        refine ⟨_, rfl, ⟨⟨wg2, hbx⟩, rfl⟩, ?_⟩
        have Rz2 := Rd.own kz2
        replace Rz0 := Rz0.keep hbg
        replace BB := Below.step BB hbg
        clear hbg hbx sg kz2
        replace hne := HW.some wg2
        refine wpM_two (i := 6) (j := 9) (by kernel_rfl) ?_ ?_
        · skip
          refine mOp_call rfl (by go_simp) 28 _ #[.agg #[.int .i64 x3.1, .int .i64 x3.2.1, .int .i64 x3.2.2]] (fun w => by go_simp) rfl ?_
          rintro _ ⟨sg, rfl⟩
          refine (toCert_c x3 _).mono ?_
          rintro e wg3 ⟨rfl, hbx⟩
          have hbg := Below.step sg.h hbx
          refine ⟨_, rfl, ⟨⟨wg3, hbx⟩, rfl⟩, ?_⟩
          replace Rz0 := Rz0.keep hbg
          replace Rz2 := Rz2.keep hbg
          replace BB := Below.step BB hbg
          clear hbg hbx sg
          replace hne := HW.some wg3
          refine wpM_two (i := 8) (j := 9) (by kernel_rfl) ?_ ?_
          · skip
            refine mOp_call rfl (by go_simp) 15 _ #[.slice pz0h bs0.length qz0h, .int .i64 a1, .slice pz2h bs2.length qz2h, .agg #[.int .i64 x3.1, .int .i64 x3.2.1, .int .i64 x3.2.2], .int .i64 a4] (fun w => by go_simp) rfl ?_
            rintro _ ⟨sg, rfl⟩
            refine (implMa_c pz0h pz2h qz0h qz2h bs0 bs2 a1 x3 a4 _ (Rz0.keep sg.h) (Rz2.keep sg.h) ((hT.keep BW).keep (Below.step BB sg.h))).mono ?_
            rintro e wg4 ⟨ush, rfl, kah, hbx⟩
            obtain ⟨ph, qh, rfl, -⟩ := kah.rd
            have hbg := Below.step sg.h hbx
            refine ⟨_, rfl, ⟨⟨wg4, hbx⟩, rfl⟩, ?_⟩
            have KAh := (kah.lower ((Below.step BB sg.h)).size : Own _ w15.heap.size _ _)
            replace Rz0 := Rz0.keep hbg
            replace Rz2 := Rz2.keep hbg
            replace BB := Below.step BB hbg
            clear hbg hbx sg kah
            replace hne := HW.some wg4
            refine wpM_only (i := 9) (by kernel_rfl) ?_
            refine mOp_make rfl (by go_simp) ?_
            rintro _ ⟨sg, rfl⟩
            refine ⟨.pointer (some ⟨sg.w.heap.size, 0, none⟩), sg.w.alloc (.cells #[.int .i64 0, .slice none 0 0] 43), by go_simp, ⟨⟨_, alloc_below _ _⟩, rfl⟩, ?_⟩
            have hbg := Below.step sg.h (alloc_below sg.w (.cells #[.int .i64 0, .slice none 0 0] 43))
            have AZh := Arr.new sg.w [.int .i64 0, .slice none 0 0] 43
            have GZh := (show Hid (w15.heap.size ≤ sg.w.heap.size) from (Below.step BB sg.h).size)
            have NEh := (show ∀ k, (Value.slice ph (maD bs0 a1 bs2 x3 a4).2.length qh).ownBlock = some k → k ≠ sg.w.heap.size from fun k h e => by have h1 := KAh.lt k h; have h2 := sg.h.size; omega)
            replace Rz0 := Rz0.keep hbg
            replace Rz2 := Rz2.keep hbg
            replace KAh := KAh.stay hbg
            replace BB := Below.step BB hbg
            clear hbg
            replace hne := HW.some (sg.w.alloc (.cells #[.int .i64 0, .slice none 0 0] 43))
            generalize hW : (sg.w.alloc (.cells #[.int .i64 0, .slice none 0 0] 43)) = wg5 at *
            clear hW
            generalize sg.w.heap.size = gzh at *
            clear sg
            refine wpM_end (by kernel_rfl) rfl (by kernel_rfl) (by decide) ?_
            rintro _ ⟨sz, rfl⟩
            simp only [List.drop_succ_cons, List.drop_zero]
            go_simp
            replace Rz0 := Rz0.keep sz.h
            replace Rz2 := Rz2.keep sz.h
            replace KAh := KAh.stay sz.h
            replace AZh := AZh.stay sz.h
            replace BB := Below.step BB sz.h
            clear hne
            generalize sz.w = Wh at *
            clear sz
            revert NEh
            revert GZh
            revert AZh
            revert KAh
            revert Rz2
            revert Rz0
            revert BB
            revert gzh
            revert qh
            revert ph
            revert qz2h
            revert pz2h
            revert qz0h
            revert pz0h
            revert Wh
            exact JN.out
          · skip
            refine mOp_make rfl (by go_simp) ?_
            rintro _ ⟨sg, rfl⟩
            refine ⟨.pointer (some ⟨sg.w.heap.size, 0, none⟩), sg.w.alloc (.cells #[.int .i64 0, .slice none 0 0] 43), by go_simp, ⟨⟨_, alloc_below _ _⟩, rfl⟩, ?_⟩
            have hbg := Below.step sg.h (alloc_below sg.w (.cells #[.int .i64 0, .slice none 0 0] 43))
            have AZh := Arr.new sg.w [.int .i64 0, .slice none 0 0] 43
            have GZh := (show Hid (w15.heap.size ≤ sg.w.heap.size) from (Below.step BB sg.h).size)
            replace Rz0 := Rz0.keep hbg
            replace Rz2 := Rz2.keep hbg
            replace BB := Below.step BB hbg
            clear hbg
            replace hne := HW.some (sg.w.alloc (.cells #[.int .i64 0, .slice none 0 0] 43))
            generalize hW : (sg.w.alloc (.cells #[.int .i64 0, .slice none 0 0] 43)) = wg6 at *
            clear hW
            generalize sg.w.heap.size = gzh at *
            clear sg
            refine wpM_only (i := 8) (by kernel_rfl) ?_
            refine mOp_call rfl (by go_simp) 15 _ #[.slice pz0h bs0.length qz0h, .int .i64 a1, .slice pz2h bs2.length qz2h, .agg #[.int .i64 x3.1, .int .i64 x3.2.1, .int .i64 x3.2.2], .int .i64 a4] (fun w => by go_simp) rfl ?_
            rintro _ ⟨sg, rfl⟩
            refine (implMa_c pz0h pz2h qz0h qz2h bs0 bs2 a1 x3 a4 _ (Rz0.keep sg.h) (Rz2.keep sg.h) ((hT.keep BW).keep (Below.step BB sg.h))).mono ?_
            rintro e wg7 ⟨ush, rfl, kah, hbx⟩
            obtain ⟨ph, qh, rfl, -⟩ := kah.rd
            have hbg := Below.step sg.h hbx
            refine ⟨_, rfl, ⟨⟨wg7, hbx⟩, rfl⟩, ?_⟩
            have KAh := (kah.lower ((Below.step BB sg.h)).size : Own _ w15.heap.size _ _)
            have NEh := (show ∀ k, (Value.slice ph (maD bs0 a1 bs2 x3 a4).2.length qh).ownBlock = some k → k ≠ gzh from fun k h e => by have h1 := kah.ge k h; have h2 := AZh.lt; have h3 := sg.h.size; omega)
            replace Rz0 := Rz0.keep hbg
            replace Rz2 := Rz2.keep hbg
            replace AZh := AZh.stay hbg
            replace BB := Below.step BB hbg
            clear hbg hbx sg kah
            replace hne := HW.some wg7
            refine wpM_end (by kernel_rfl) rfl (by kernel_rfl) (by decide) ?_
            rintro _ ⟨sz, rfl⟩
            simp only [List.drop_succ_cons, List.drop_zero]
            go_simp
            replace Rz0 := Rz0.keep sz.h
            replace Rz2 := Rz2.keep sz.h
            replace AZh := AZh.stay sz.h
            replace KAh := KAh.stay sz.h
            replace BB := Below.step BB sz.h
            clear hne
            generalize sz.w = Wh at *
            clear sz
            revert NEh
            revert GZh
            revert AZh
            revert KAh
            revert Rz2
            revert Rz0
            revert BB
            revert gzh
            revert qh
            revert ph
            revert qz2h
            revert pz2h
            revert qz0h
            revert pz0h
            revert Wh
            exact JN.out
        · skip
          refine mOp_make rfl (by go_simp) ?_
          rintro _ ⟨sg, rfl⟩
          refine ⟨.pointer (some ⟨sg.w.heap.size, 0, none⟩), sg.w.alloc (.cells #[.int .i64 0, .slice none 0 0] 43), by go_simp, ⟨⟨_, alloc_below _ _⟩, rfl⟩, ?_⟩
          have hbg := Below.step sg.h (alloc_below sg.w (.cells #[.int .i64 0, .slice none 0 0] 43))
          have AZh := Arr.new sg.w [.int .i64 0, .slice none 0 0] 43
          have GZh := (show Hid (w15.heap.size ≤ sg.w.heap.size) from (Below.step BB sg.h).size)
          replace Rz0 := Rz0.keep hbg
          replace Rz2 := Rz2.keep hbg
          replace BB := Below.step BB hbg
          clear hbg
          replace hne := HW.some (sg.w.alloc (.cells #[.int .i64 0, .slice none 0 0] 43))
          generalize hW : (sg.w.alloc (.cells #[.int .i64 0, .slice none 0 0] 43)) = wg8 at *
          clear hW
          generalize sg.w.heap.size = gzh at *
          clear sg
          refine wpM_only (i := 6) (by kernel_rfl) ?_
          refine mOp_call rfl (by go_simp) 28 _ #[.agg #[.int .i64 x3.1, .int .i64 x3.2.1, .int .i64 x3.2.2]] (fun w => by go_simp) rfl ?_
          rintro _ ⟨sg, rfl⟩
          refine (toCert_c x3 _).mono ?_
          rintro e wg9 ⟨rfl, hbx⟩
          have hbg := Below.step sg.h hbx
          refine ⟨_, rfl, ⟨⟨wg9, hbx⟩, rfl⟩, ?_⟩
          replace Rz0 := Rz0.keep hbg
          replace Rz2 := Rz2.keep hbg
          replace AZh := AZh.stay hbg
          replace BB := Below.step BB hbg
          clear hbg hbx sg
          replace hne := HW.some wg9
          refine wpM_only (i := 8) (by kernel_rfl) ?_
          refine mOp_call rfl (by go_simp) 15 _ #[.slice pz0h bs0.length qz0h, .int .i64 a1, .slice pz2h bs2.length qz2h, .agg #[.int .i64 x3.1, .int .i64 x3.2.1, .int .i64 x3.2.2], .int .i64 a4] (fun w => by go_simp) rfl ?_
          rintro _ ⟨sg, rfl⟩
          refine (implMa_c pz0h pz2h qz0h qz2h bs0 bs2 a1 x3 a4 _ (Rz0.keep sg.h) (Rz2.keep sg.h) ((hT.keep BW).keep (Below.step BB sg.h))).mono ?_
          rintro e wg10 ⟨ush, rfl, kah, hbx⟩
          obtain ⟨ph, qh, rfl, -⟩ := kah.rd
          have hbg := Below.step sg.h hbx
          refine ⟨_, rfl, ⟨⟨wg10, hbx⟩, rfl⟩, ?_⟩
          have KAh := (kah.lower ((Below.step BB sg.h)).size : Own _ w15.heap.size _ _)
          have NEh := (show ∀ k, (Value.slice ph (maD bs0 a1 bs2 x3 a4).2.length qh).ownBlock = some k → k ≠ gzh from fun k h e => by have h1 := kah.ge k h; have h2 := AZh.lt; have h3 := sg.h.size; omega)
          replace Rz0 := Rz0.keep hbg
          replace Rz2 := Rz2.keep hbg
          replace AZh := AZh.stay hbg
          replace BB := Below.step BB hbg
          clear hbg hbx sg kah
          replace hne := HW.some wg10
          refine wpM_end (by kernel_rfl) rfl (by kernel_rfl) (by decide) ?_
          rintro _ ⟨sz, rfl⟩
          simp only [List.drop_succ_cons, List.drop_zero]
          go_simp
          replace Rz0 := Rz0.keep sz.h
          replace Rz2 := Rz2.keep sz.h
          replace AZh := AZh.stay sz.h
          replace KAh := KAh.stay sz.h
          replace BB := Below.step BB sz.h
          clear hne
          generalize sz.w = Wh at *
          clear sz
          revert NEh
          revert GZh
          revert AZh
          revert KAh
          revert Rz2
          revert Rz0
          revert BB
          revert gzh
          revert qh
          revert ph
          revert qz2h
          revert pz2h
          revert qz0h
          revert pz0h
          revert Wh
          exact JN.out
      · skip
        refine mOp_make rfl (by go_simp) ?_
        rintro _ ⟨sg, rfl⟩
        refine ⟨.pointer (some ⟨sg.w.heap.size, 0, none⟩), sg.w.alloc (.cells #[.int .i64 0, .slice none 0 0] 43), by go_simp, ⟨⟨_, alloc_below _ _⟩, rfl⟩, ?_⟩
        have hbg := Below.step sg.h (alloc_below sg.w (.cells #[.int .i64 0, .slice none 0 0] 43))
        have AZh := Arr.new sg.w [.int .i64 0, .slice none 0 0] 43
        have GZh := (show Hid (w15.heap.size ≤ sg.w.heap.size) from (Below.step BB sg.h).size)
        replace Rz0 := Rz0.keep hbg
        replace BB := Below.step BB hbg
        clear hbg
        replace hne := HW.some (sg.w.alloc (.cells #[.int .i64 0, .slice none 0 0] 43))
        generalize hW : (sg.w.alloc (.cells #[.int .i64 0, .slice none 0 0] 43)) = wg11 at *
        clear hW
        generalize sg.w.heap.size = gzh at *
        clear sg
        refine wpM_only (i := 4) (by kernel_rfl) ?_
        refine mOp_call rfl (by go_simp) 27 _ #[.slice p2 bs2.length q2] (fun w => by go_simp) rfl ?_
        rintro _ ⟨sg, rfl⟩
        refine (toByteS_c _ _ bs2 _ ((r2.keep BW).keep (Below.step BB sg.h)) hl2).mono ?_
        rintro e wg12 ⟨uz2, rfl, kz2, hbx⟩
        obtain ⟨pz2h, qz2h, rfl, -⟩ := kz2.rd
        have hbg := Below.step sg.h hbx
        refine ⟨_, rfl, ⟨⟨wg12, hbx⟩, rfl⟩, ?_⟩
        have Rz2 := Rd.own kz2
        replace Rz0 := Rz0.keep hbg
        replace AZh := AZh.stay hbg
        replace BB := Below.step BB hbg
        clear hbg hbx sg kz2
        replace hne := HW.some wg12
        refine wpM_only (i := 6) (by kernel_rfl) ?_
        refine mOp_call rfl (by go_simp) 28 _ #[.agg #[.int .i64 x3.1, .int .i64 x3.2.1, .int .i64 x3.2.2]] (fun w => by go_simp) rfl ?_
        rintro _ ⟨sg, rfl⟩
        refine (toCert_c x3 _).mono ?_
        rintro e wg13 ⟨rfl, hbx⟩
        have hbg := Below.step sg.h hbx
        refine ⟨_, rfl, ⟨⟨wg13, hbx⟩, rfl⟩, ?_⟩
        replace Rz0 := Rz0.keep hbg
        replace AZh := AZh.stay hbg
        replace Rz2 := Rz2.keep hbg
        replace BB := Below.step BB hbg
        clear hbg hbx sg
        replace hne := HW.some wg13
        refine wpM_only (i := 8) (by kernel_rfl) ?_
        refine mOp_call rfl (by go_simp) 15 _ #[.slice pz0h bs0.length qz0h, .int .i64 a1, .slice pz2h bs2.length qz2h, .agg #[.int .i64 x3.1, .int .i64 x3.2.1, .int .i64 x3.2.2], .int .i64 a4] (fun w => by go_simp) rfl ?_
        rintro _ ⟨sg, rfl⟩
        refine (implMa_c pz0h pz2h qz0h qz2h bs0 bs2 a1 x3 a4 _ (Rz0.keep sg.h) (Rz2.keep sg.h) ((hT.keep BW).keep (Below.step BB sg.h))).mono ?_
        rintro e wg14 ⟨ush, rfl, kah, hbx⟩
        obtain ⟨ph, qh, rfl, -⟩ := kah.rd
        have hbg := Below.step sg.h hbx
        refine ⟨_, rfl, ⟨⟨wg14, hbx⟩, rfl⟩, ?_⟩
        have KAh := (kah.lower ((Below.step BB sg.h)).size : Own _ w15.heap.size _ _)
        have NEh := (show ∀ k, (Value.slice ph (maD bs0 a1 bs2 x3 a4).2.length qh).ownBlock = some k → k ≠ gzh from fun k h e => by have h1 := kah.ge k h; have h2 := AZh.lt; have h3 := sg.h.size; omega)
        replace Rz0 := Rz0.keep hbg
        replace AZh := AZh.stay hbg
        replace Rz2 := Rz2.keep hbg
        replace BB := Below.step BB hbg
        clear hbg hbx sg kah
        replace hne := HW.some wg14
        refine wpM_end (by kernel_rfl) rfl (by kernel_rfl) (by decide) ?_
        rintro _ ⟨sz, rfl⟩
        simp only [List.drop_succ_cons, List.drop_zero]
        go_simp
        replace Rz0 := Rz0.keep sz.h
        replace AZh := AZh.stay sz.h
        replace Rz2 := Rz2.keep sz.h
        replace KAh := KAh.stay sz.h
        replace BB := Below.step BB sz.h
        clear hne
        generalize sz.w = Wh at *
        clear sz
        revert NEh
        revert GZh
        revert AZh
        revert KAh
        revert Rz2
        revert Rz0
        revert BB
        revert gzh
        revert qh
        revert ph
        revert qz2h
        revert pz2h
        revert qz0h
        revert pz0h
        revert Wh
        exact JN.out
    · skip
      refine mOp_make rfl (by go_simp) ?_
      rintro _ ⟨sg, rfl⟩
      refine ⟨.pointer (some ⟨sg.w.heap.size, 0, none⟩), sg.w.alloc (.cells #[.int .i64 0, .slice none 0 0] 43), by go_simp, ⟨⟨_, alloc_below _ _⟩, rfl⟩, ?_⟩
      have hbg := Below.step sg.h (alloc_below sg.w (.cells #[.int .i64 0, .slice none 0 0] 43))
      have AZh := Arr.new sg.w [.int .i64 0, .slice none 0 0] 43
      have GZh := (show Hid (w15.heap.size ≤ sg.w.heap.size) from (Below.step BB sg.h).size)
      replace BB := Below.step BB hbg
      clear hbg
      replace hne := HW.some (sg.w.alloc (.cells #[.int .i64 0, .slice none 0 0] 43))
      generalize hW : (sg.w.alloc (.cells #[.int .i64 0, .slice none 0 0] 43)) = wg15 at *
      clear hW
      generalize sg.w.heap.size = gzh at *
      clear sg
      refine wpM_only (i := 1) (by kernel_rfl) ?_
      refine mOp_call rfl (by go_simp) 27 _ #[.slice p0 bs0.length q0] (fun w => by go_simp) rfl ?_
      rintro _ ⟨sg, rfl⟩
      refine (toByteS_c _ _ bs0 _ ((r0.keep BW).keep (Below.step BB sg.h)) hl0).mono ?_
      rintro e wg16 ⟨uz0, rfl, kz0, hbx⟩
      obtain ⟨pz0h, qz0h, rfl, -⟩ := kz0.rd
      have hbg := Below.step sg.h hbx
      refine ⟨_, rfl, ⟨⟨wg16, hbx⟩, rfl⟩, ?_⟩
      have Rz0 := Rd.own kz0
      replace AZh := AZh.stay hbg
      replace BB := Below.step BB hbg
      clear hbg hbx sg kz0
      replace hne := HW.some wg16
      refine wpM_only (i := 4) (by kernel_rfl) ?_
      refine mOp_call rfl (by go_simp) 27 _ #[.slice p2 bs2.length q2] (fun w => by go_simp) rfl ?_
      rintro _ ⟨sg, rfl⟩
      refine (toByteS_c _ _ bs2 _ ((r2.keep BW).keep (Below.step BB sg.h)) hl2).mono ?_
      rintro e wg17 ⟨uz2, rfl, kz2, hbx⟩
      obtain ⟨pz2h, qz2h, rfl, -⟩ := kz2.rd
      have hbg := Below.step sg.h hbx
      refine ⟨_, rfl, ⟨⟨wg17, hbx⟩, rfl⟩, ?_⟩
      have Rz2 := Rd.own kz2
      replace AZh := AZh.stay hbg
      replace Rz0 := Rz0.keep hbg
      replace BB := Below.step BB hbg
      clear hbg hbx sg kz2
      replace hne := HW.some wg17
      refine wpM_only (i := 6) (by kernel_rfl) ?_
      refine mOp_call rfl (by go_simp) 28 _ #[.agg #[.int .i64 x3.1, .int .i64 x3.2.1, .int .i64 x3.2.2]] (fun w => by go_simp) rfl ?_
      rintro _ ⟨sg, rfl⟩
      refine (toCert_c x3 _).mono ?_
      rintro e wg18 ⟨rfl, hbx⟩
      have hbg := Below.step sg.h hbx
      refine ⟨_, rfl, ⟨⟨wg18, hbx⟩, rfl⟩, ?_⟩
      replace AZh := AZh.stay hbg
      replace Rz0 := Rz0.keep hbg
      replace Rz2 := Rz2.keep hbg
      replace BB := Below.step BB hbg
      clear hbg hbx sg
      replace hne := HW.some wg18
      refine wpM_only (i := 8) (by kernel_rfl) ?_
      refine mOp_call rfl (by go_simp) 15 _ #[.slice pz0h bs0.length qz0h, .int .i64 a1, .slice pz2h bs2.length qz2h, .agg #[.int .i64 x3.1, .int .i64 x3.2.1, .int .i64 x3.2.2], .int .i64 a4] (fun w => by go_simp) rfl ?_
      rintro _ ⟨sg, rfl⟩
      refine (implMa_c pz0h pz2h qz0h qz2h bs0 bs2 a1 x3 a4 _ (Rz0.keep sg.h) (Rz2.keep sg.h) ((hT.keep BW).keep (Below.step BB sg.h))).mono ?_
      rintro e wg19 ⟨ush, rfl, kah, hbx⟩
      obtain ⟨ph, qh, rfl, -⟩ := kah.rd
      have hbg := Below.step sg.h hbx
      refine ⟨_, rfl, ⟨⟨wg19, hbx⟩, rfl⟩, ?_⟩
      have KAh := (kah.lower ((Below.step BB sg.h)).size : Own _ w15.heap.size _ _)
      have NEh := (show ∀ k, (Value.slice ph (maD bs0 a1 bs2 x3 a4).2.length qh).ownBlock = some k → k ≠ gzh from fun k h e => by have h1 := kah.ge k h; have h2 := AZh.lt; have h3 := sg.h.size; omega)
      replace AZh := AZh.stay hbg
      replace Rz0 := Rz0.keep hbg
      replace Rz2 := Rz2.keep hbg
      replace BB := Below.step BB hbg
      clear hbg hbx sg kah
      replace hne := HW.some wg19
      refine wpM_end (by kernel_rfl) rfl (by kernel_rfl) (by decide) ?_
      rintro _ ⟨sz, rfl⟩
      simp only [List.drop_succ_cons, List.drop_zero]
      go_simp
      replace AZh := AZh.stay sz.h
      replace Rz0 := Rz0.keep sz.h
      replace Rz2 := Rz2.keep sz.h
      replace KAh := KAh.stay sz.h
      replace BB := Below.step BB sz.h
      clear hne
      generalize sz.w = Wh at *
      clear sz
      revert NEh
      revert GZh
      revert AZh
      revert KAh
      revert Rz2
      revert Rz0
      revert BB
      revert gzh
      revert qh
      revert ph
      revert qz2h
      revert pz2h
      revert qz0h
      revert pz0h
      revert Wh
      exact JN.out
  intro Wh pz0h qz0h pz2h qz2h ph qh gzh BB Rz0 Rz2 KAh AZh GZh NEh
  have hresh : Hid ((Tryz.prog.info? 43).map (·.size) = some 2) := by show _ = _; kernel_rfl
  refine wpList_store_row rfl 43 _ _ rfl gzh #[.int .i64 (maD bs0 a1 bs2 x3 a4).1, .slice ph (maD bs0 a1 bs2 x3 a4).2.length qh] rfl rfl 43 #[.int .i64 0, .slice none 0 0] AZh hresh.out rfl (by simp [Value.oneCell']) ?_
  have A2h := (Loc.arr (AZh.row [.int .i64 (maD bs0 a1 bs2 x3 a4).1, .slice ph (maD bs0 a1 bs2 x3 a4).2.length qh])).1
  have hb16 : Below w15.heap.size w15 (Wh.setRow gzh #[.int .i64 (maD bs0 a1 bs2 x3 a4).1, .slice ph (maD bs0 a1 bs2 x3 a4).2.length qh]) := Below.row BB GZh.out _
  replace KAh := KAh.row NEh #[.int .i64 (maD bs0 a1 bs2 x3 a4).1, .slice ph (maD bs0 a1 bs2 x3 a4).2.length qh]
  have GLh : Hid (w15.heap.size ≤ gzh) := GZh.out
  have ZLh : gzh < Wh.heap.size := AZh.lt
  have SZh : (Wh.setRow gzh #[.int .i64 (maD bs0 a1 bs2 x3 a4).1, .slice ph (maD bs0 a1 bs2 x3 a4).2.length qh]).heap.size = Wh.heap.size := size_setRow _ _ _
  clear BB AZh GZh NEh Rz0 Rz2
  generalize Wh.setRow gzh #[.int .i64 (maD bs0 a1 bs2 x3 a4).1, .slice ph (maD bs0 a1 bs2 x3 a4).2.length qh] = w16 at *
  rw [← SZh] at ZLh
  clear SZh
  have gkh : Hid (∀ k, k ∈ (Value.slice ph (maD bs0 a1 bs2 x3 a4).2.length qh).ownBlock.toList → w15.heap.size ≤ k ∧ k < w16.heap.size) := fun k hk => KAh.ins k hk
  have kh := KAh.win (Nat.le_refl _) gkh.out
  have sC := Win.wide (Has.win A2h) GLh.out ZLh (Nat.le_refl _)
  clear KAh A2h GLh ZLh hresh
  have z16 : Hid (w15.heap.size ≤ w16.heap.size) := hb16.size
  replace sP := sP.stay hb16
  replace ks := ks.stay hb16
  replace sA := sA.stay hb16
  replace sB := sB.stay hb16
  replace km := km.stay hb16
  replace BW := Below.step BW hb16
  clear hb16
  go_simp
  have csA0 := sA.now 0 _ rfl
  have csA1 := sA.now 1 _ rfl
  have zsA := Has.lt sA.now
  have csC0 := sC.now 0 _ rfl
  have csC1 := sC.now 1 _ rfl
  have zsC := Has.lt sC.now
  go_wp2_with fail
  refine (eqBytes2_c _ _ _ ph ps qh qs ((maD bs0 a1 bs2 x3 a4).2) _ kh.now ks.now).mono ?_
  rintro e w17 ⟨rfl, hb17⟩
  have z17 : Hid (w16.heap.size ≤ w17.heap.size) := hb17.size
  replace sP := sP.stay hb17
  replace ks := ks.stay hb17
  replace sA := sA.stay hb17
  replace sB := sB.stay hb17
  replace km := km.stay hb17
  replace kh := kh.stay hb17
  replace sC := sC.stay hb17
  replace BW := Below.step BW hb17
  clear hb17 csA0 csA1 zsA csC0 csC1 zsC
  clear sC sA ks kh
  have csB0 := sB.now 0 _ rfl
  have csB1 := sB.now 1 _ rfl
  have zsB := Has.lt sB.now
  go_wp2_with fail
  refine (heldBytes1_c _ _ pg qg ((maD bs0 a1 bs2 x3 a4).2).length _ km.now hlen).mono ?_
  rintro e w18 ⟨rfl, hb18⟩
  have z18 : Hid (w17.heap.size ≤ w18.heap.size) := hb18.size
  replace sP := sP.stay hb18
  replace sB := sB.stay hb18
  replace km := km.stay hb18
  replace BW := Below.step BW hb18
  clear hb18 csB0 csB1 zsB
  go_wp2
  go_ret
  exact ⟨rfl, BW⟩

/-! The row's step. -/
/-- The door's own heap meets the condition. -/
theorem door_met (os : Os) (args : Array Value) : laidMetH Tryz.prog Rows.fnExactMakeAuthRow.laid ((World.doorLaid Tryz.prog 400 os).forCall (fun _ _ => 0) ⟨#[], args, []⟩).memory :=
  laidMet_of_run' 8 (by kernel_rfl) (by kernel_rfl)

set_option maxRecDepth 100000 in
set_option maxHeartbeats 1000000 in
theorem lifted (os : Os) (started : os.Started) (H : Type) (enc : TypeId × Value → H) :
    ReturnsInHanded {} Tryz.checked os 6 .any (fun w args => (Rows.fnExactMakeAuthSpec.pre enc Tryz.prog Tryz.f6 [] false w args ∧ laidMetH Tryz.prog Rows.fnExactMakeAuthRow.laid w) ∧ sizedMet enc Tryz.prog Tryz.f6 (OpenSpec.ofChange Rows.fnExactMakeAuthSpec) false w args) (Rows.fnExactMakeAuthSpec.post enc Tryz.prog Tryz.f6 false true false false) := by
  refine returnsInHanded_of_change_and (C := Tryz.checked) (X := fun w _ => laidMetH Tryz.prog Rows.fnExactMakeAuthRow.laid w) (fun _ _ _ hh h => h.of_heap hh) own started (by kernel_rfl) Tryz.func6
    (ChangeSpec.witness_shaped (enc := enc) (C := Tryz.checked) (os := os) (X := fun w _ => laidMetH Tryz.prog Rows.fnExactMakeAuthRow.laid w) false (World.doorLaid Tryz.prog 400 os) #[.slice none 0 0, .int .i64 0, .slice none 0 0, .agg #[.int .i64 0, .int .i64 0, .int .i64 0], .int .i64 0] 8 rfl (World.shaped_of_RefB (by kernel_rfl) (by kernel_rfl)) (by kernel_rfl) (by kernel_rfl) (by kernel_rfl) (door_met os _)) ?_
  intro W base args ds gs before hval0 hW hcnd _ hL _
  have hval : ∀ (j : Nat) t v, Tryz.f6.params[j]? = some t → args[j]? = some v → Value.okWide Tryz.prog W .any base t v := hval0
  have hW' := hW
  obtain ⟨p, q, hA0, hV, rfl, hfz, hnd⟩ := hW
  have hA : DataW.TrodAll enc Tryz.prog W 0 (fun _ => true) true Tryz.f6.params.toList args.toList ds p := hA0
  rw [Tryz.params6] at hA hval
  obtain ⟨v0, vs0, d0, ds0, s0, t0, hargs, rfl, rfl, h0, m0⟩ := trodAll_cons hA
  obtain ⟨v1, vs1, d1, ds1, s1, t1, rfl, rfl, rfl, h1, m1⟩ := trodAll_cons m0
  obtain ⟨v2, vs2, d2, ds2, s2, t2, rfl, rfl, rfl, h2, m2⟩ := trodAll_cons m1
  obtain ⟨v3, vs3, d3, ds3, s3, t3, rfl, rfl, rfl, h3, m3⟩ := trodAll_cons m2
  obtain ⟨v4, vs4, d4, ds4, s4, t4, rfl, rfl, rfl, h4, m4⟩ := trodAll_cons m3
  obtain ⟨rfl, rfl, rfl⟩ := trodAll_nil m4
  obtain rfl : args = #[v0, v1, v2, v3, v4] := by cases args; simp_all
  obtain ⟨v0a, v0b, v0c, v0d, v0e, v0f, v1a, v1b, v1c, v1d, v1e, v1f, rfl, -⟩ := trodVars_two hV
  obtain ⟨e0, len0, cap0, rfl⟩ := okWide_slice Tryz.underlying22 (hval 0 22 v0 rfl rfl)
  have k0 := h0
  have lt0 : ∀ x ∈ s0, x.block < W.heap.size := by obtain ⟨m, hm⟩ := k0; exact DataW.trod_lt m _ _ _ hm
  obtain ⟨bs0, p0, q0, g0, r0⟩ : ∃ x, Cod.rep bytC W x [.slice e0 len0 cap0] := by obtain ⟨fuel, hf⟩ := h0; exact (opens_bytes Tryz.underlying22 Tryz.underlying5 (by kernel_rfl)) _ _ _ hf
  simp only [List.cons.injEq, Value.slice.injEq, and_true] at g0
  obtain ⟨rfl, rfl, rfl⟩ := g0
  obtain ⟨a1, rfl, rfl, rfl, f1⟩ := open_int Tryz.underlying2 (hval 1 2 v1 rfl rfl) h1
  obtain ⟨e2, len2, cap2, rfl⟩ := okWide_slice Tryz.underlying22 (hval 2 22 v2 rfl rfl)
  have k2 := h2
  have lt2 : ∀ x ∈ s2, x.block < W.heap.size := by obtain ⟨m, hm⟩ := k2; exact DataW.trod_lt m _ _ _ hm
  obtain ⟨bs2, p2, q2, g2, r2⟩ : ∃ x, Cod.rep bytC W x [.slice e2 len2 cap2] := by obtain ⟨fuel, hf⟩ := h2; exact (opens_bytes Tryz.underlying22 Tryz.underlying5 (by kernel_rfl)) _ _ _ hf
  simp only [List.cons.injEq, Value.slice.injEq, and_true] at g2
  obtain ⟨rfl, rfl, rfl⟩ := g2
  obtain ⟨cs3, rfl, -⟩ := okWide_struct Tryz.underlying69 (hval 3 69 v3 rfl rfl)
  have k3 := h3
  have lt3 : ∀ x ∈ s3, x.block < W.heap.size := by obtain ⟨m, hm⟩ := k3; exact DataW.trod_lt m _ _ _ hm
  obtain ⟨x3, r3⟩ : ∃ x, Cod.rep certC W x cs3.toList := by obtain ⟨fuel, hf⟩ := h3; exact (opens_struct (c := certC) Tryz.underlying69 (by kernel_rfl) (opensF_cons rfl (by kernel_rfl) (opens_int Tryz.underlying2) (opensF_cons rfl (by kernel_rfl) (opens_int Tryz.underlying2) (opensF_one rfl (by kernel_rfl) (opens_int Tryz.underlying2))))) _ _ _ hf
  obtain ⟨a4, rfl, rfl, rfl, f4⟩ := open_int Tryz.underlying2 (hval 4 2 v4 rfl rfl) h4
  clear hA0 hval0
  refine (walk bs0 e0 cap0 a1 bs2 e2 cap2 x3 cs3.toList a4 W r0 f1 r2 r3 f4 (tabs_of hL)).mono fun e W' ⟨he, bel⟩ => ?_
  subst he
  exact ⟨_, rfl, _, _, _, [], _, _, hW', trodAll_mk1 (shut_bool Tryz.underlying4 _), (trodAll_cons_mk (Below.trod laidOut (by kernel_rfl) (of_decide_eq_true (by kernel_rfl)) k0 bel lt0) (trodAll_cons_mk (shut_int Tryz.underlying2 f1) (trodAll_cons_mk (Below.trod laidOut (by kernel_rfl) (of_decide_eq_true (by kernel_rfl)) k2 bel lt2) (trodAll_cons_mk (Below.trod laidOut (by kernel_rfl) (of_decide_eq_true (by kernel_rfl)) k3 bel lt3) (trodAll_cons_mk (shut_int Tryz.underlying2 f4) trodAll_mk0))))), Below.trodVars laidOut bel (by kernel_rfl) hV, bel.frame _, fun h => by cases h⟩

theorem over : Rows.fnExactMakeAuthRow.holds Tryz.pinned (OpenSpec.ofChange Rows.fnExactMakeAuthSpec) :=
  OpenClaim.holds_of_wide 6 Tryz.f6 rfl rfl rfl rfl rfl rfl rfl ⟨rfl, rfl, rfl, rfl, rfl⟩ rfl rfl rfl rfl rfl (by kernel_rfl) Tryz.func6 (by kernel_rfl)
    (of_decide_eq_true (by kernel_rfl)) (by unfold Func.isWrapper; first | (rw [if_pos (by decide +kernel)]; kernel_rfl) | (rw [if_neg (by decide +kernel)]; exact ⟨rfl, rfl⟩))
    (fun os started H enc _ => lifted os started H enc)

theorem plain (f : FuncId) (fn : Func) (hf : Tryz.pinned.checked.prog.funcNamed "loop.example/g00375/laws.FnExactMakeAuth" = some f) (hfn : Tryz.pinned.checked.prog.funcs[f]? = some fn) :
    true = Tryz.pinned.checked.prog.looks [] ∧ ∀ (j : Nat) t, fn.params[j]? = some t → Tryz.pinned.checked.prog.wantsStandIn t = false := by
  obtain rfl : f = 6 := Option.some.inj ((show Tryz.prog.funcNamed "loop.example/g00375/laws.FnExactMakeAuth" = some 6 by kernel_rfl).symm.trans hf) |>.symm
  obtain rfl : fn = Tryz.f6 := (Option.some.inj (Tryz.func6.symm.trans hfn)).symm
  refine ⟨by kernel_rfl, fun j t ht => ?_⟩
  rw [Tryz.params6] at ht
  have hm : t ∈ [22, 2, 22, 69, 2] := by simpa using Array.mem_of_getElem? ht
  have hall : ([22, 2, 22, 69, 2].all fun u => !Tryz.prog.wantsStandIn u) = true := by kernel_rfl
  exact (show Tryz.prog.wantsStandIn t = false by simpa using List.all_eq_true.1 hall t hm)
/-- The card. -/
theorem card : Rows.FnExactMakeAuthCardSaid :=
  Claim7.holds_tied_plain_at .later [] _ _ _ _ over (fun _ h => by cases h) (by kernel_rfl) (fun _ h => by cases h) fnExactMakeAuth_row_tie rfl ⟨rfl, rfl⟩ (by kernel_rfl) rfl plain (by kernel_rfl)
end Go.Proofs.YtdbpnibcblelbaaGreatDoor.fnExactMakeAuth

namespace Go.Proofs.YtdbpnibcblelbaaGreatDoor
theorem fnExactMakeAuth_holds : Rows.FnExactMakeAuthCardSaid := fnExactMakeAuth.card
end Go.Proofs.YtdbpnibcblelbaaGreatDoor
