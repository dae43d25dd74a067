/- The contract of finished values in the program: impl.FinishOf at every argument: code and bytes, where the two tables hold what the program's text lays (Tabs). What was there stays. -/
import Derived.Test.YtpbkncliepkhaaaDoorJoint10
import Derived.Test.YtpbkncliepkhaaaDoorKeyI
import Derived.Test.YtpbkncliepkhaaaDoorJoint6
import Derived.Test.YtpbkncliepkhaaaDoorBytes
import Derived.Handy
import Derived.Test.YtpbkncliepkhaaaDoorDigI
import Derived.Test.YtpbkncliepkhaaaDoorRows
import Derived.Lib.LaidTab
import Derived.Stop.LaidErr
namespace Go.Proofs.YtpbkncliepkhaaaDoor
open Go.ChangeShapes Go.WideShapes Go.ChangeAt Go.RowKit

set_option maxRecDepth 4000 in
set_option maxHeartbeats 1000000 in
theorem implFn_c (p p2 : Option Addr) (q q2 : Nat) (key digest : List UInt8) (w : World) (hr : Rd w p q key) (hr2 : Rd w p2 q2 digest) (hT : Tabs w) :
    Calls Tryd.prog 14 #[.slice p key.length q, .slice p2 digest.length q2] w fun e w' => ∃ u, e = .returned (.agg #[.int .i64 (fnC key digest), u]) ∧ Own w' w.heap.size u (fnL key digest) ∧ Below w.heap.size w w' := by
  by_cases h1 : key.length = 32
  · have d1 : ((key.length : Int) != 32) = false := by rw [bne_eq_false_iff_eq]; omega
    by_cases h2 : digest.length = 32
    · have d2 : ((digest.length : Int) != 32) = false := by rw [bne_eq_false_iff_eq]; omega
      rw [show fnC key digest = 0 by simp [fnC, h1, h2], show fnL key digest = finN key digest by simp [fnL, h1, h2]]
      have hk : keyB key = true := by simp [keyB, h1]
      have hd : dataB digest = true := by simp [dataB, h2]
      obtain ⟨ek, hek⟩ : ∃ ek, Hid (ek = expLabN key finished [] 32) := ⟨_, rfl⟩
      have HL : Hid (ek.length = 32) := by show _ = _; rw [hek.out, expLabN, expandN_len]
      have K : Hid (∀ w, Rd w p q key → Tabs w → Calls Tryd.prog 39 #[.slice p key.length q, .string ⟨#[102, 105, 110, 105, 115, 104, 101, 100]⟩, .slice none 0 0, .int .i64 32] w fun e w' => ∃ a c, e = .returned (.agg #[.int .i64 0, .slice a 32 c]) ∧ Rd w' a c ek ∧ Below w.heap.size w w') := fun w h h' => by
        have g := implExpL_c p none q 0 key finished [] 32 w h ⟨Nat.le_refl _, by unfold maxLen; decide, fun _ => rfl, fun hp => by simp at hp⟩ (by decide) h'
        have hc : labelC finished [] 32 = 0 := by decide
        rw [← finished_str, show elC key finished [] 32 = 0 by simp [elC, hk, hc], show elL key finished [] 32 = ek by rw [hek.out]; simp [elL, elC, hk, hc]] at g
        refine g.mono ?_
        rintro e w1 ⟨u, rfl, ho, hb⟩
        obtain ⟨a, c, rfl, rd⟩ := ho.rd
        rw [HL.out]
        exact ⟨a, c, rfl, rd, hb⟩
      have KM : Hid (∀ w a c, Rd w a c ek → Rd w p2 q2 digest → Tabs w → Calls Tryd.prog 40 #[.slice a 32 c, .slice p2 digest.length q2] w fun e w' => ∃ u, e = .returned (.agg #[.int .i64 0, u]) ∧ Own w' w.heap.size u (finN key digest) ∧ Below w.heap.size w w') := fun w a c h h' h'' => by
        have g := implMac_c a p2 c q2 ek digest w h h' h''
        have hm : macOk ek digest = true := by have := HL.out; simp [macOk, keyB, hd]; omega
        rw [HL.out, show macC ek digest = 0 by simp [macC, hm], show macL ek digest = finN key digest by rw [finN_eq, ← hek.out]; simp [macL, hm]] at g
        exact g
      have HR : Hid (Rd w p q key) := hr
      have HR2 : Hid (Rd w p2 q2 digest) := hr2
      have HT : Hid (Tabs w) := hT
      clear h1 h2 hr hr2 hT hk hd
      go_enter Tryd.func14, Tryd.ntmps14
      go_wp2_with fail
      refine (K.out _ (HR.out.keep (alloc_below _ _)) (HT.out.keep (alloc_below _ _))).mono ?_
      rintro e w1 ⟨a, cap, rfl, rd1, hb⟩
      have C1 := (Arr.new w [.int .i64 0, .slice none 0 0] 34).stay hb
      have BW := Below.res hb
      have hz : Hid (w.heap.size < w1.heap.size) := size_lt hb
      clear hb
      go_wp2_with fail
      refine (KM.out _ a cap (rd1.keep (alloc_below _ _)) (HR2.out.keep (Below.mk BW _)) (HT.out.keep (Below.mk BW _))).mono ?_
      rintro e w2 ⟨u2, rfl, k2, hb2⟩
      obtain ⟨a2, cap2, rfl, -⟩ := k2.rd
      rw [size_alloc] at k2
      replace C1 := (C1.old _ (.cells #[.int .i64 0, .slice a 32 cap] 34)).stay hb2
      replace hz : Hid (w.heap.size < w1.heap.size + 1) := Nat.lt_succ_of_lt hz.out
      replace BW := Below.mk BW (.cells #[.int .i64 0, .slice a 32 cap] 34)
      replace BW := Below.step BW hb2
      have c0 := C1.cell 0
      have c1 := C1.cell 1
      simp at c0 c1
      have fz := C1.frozen
      clear hb2 rd1
      go_wp2
      refine bodyPost_ret (v := .agg #[.int .i64 0, .slice a2 (finN key digest).length cap2]) (by simp [results, Tryd.results14, go_sem, c0, c1]) rfl ⟨_, rfl, ?_, (BW.setCell (Nat.le_refl _) _).setCell (Nat.le_refl _) _⟩
      exact ((k2.set hz.out _).set hz.out _).lower (Nat.le_of_lt hz.out)
    · have d2 : ((digest.length : Int) != 32) = true := by rw [bne_iff_ne]; omega
      rw [show fnC key digest = 1 by simp [fnC, h2], show fnL key digest = [] by simp [fnL, h2]]
      clear h1 h2
      go_enter Tryd.func14, Tryd.ntmps14
      go_wp2
      exact bodyPost_ret (v := .agg #[.int .i64 1, .slice none 0 0]) (by simp [results, Tryd.results14, go_sem]) rfl ⟨_, rfl, Own_nil _ _, alloc_below _ _⟩
  · have d1 : ((key.length : Int) != 32) = true := by rw [bne_iff_ne]; omega
    rw [show fnC key digest = 1 by simp [fnC, h1], show fnL key digest = [] by simp [fnL, h1]]
    clear h1
    go_enter Tryd.func14, Tryd.ntmps14
    go_wp2
    exact bodyPost_ret (v := .agg #[.int .i64 1, .slice none 0 0]) (by simp [results, Tryd.results14, go_sem]) rfl ⟨_, rfl, Own_nil _ _, alloc_below _ _⟩
end Go.Proofs.YtpbkncliepkhaaaDoor

/- isKey of the program: does it have 32 bytes? -/
namespace Go.Proofs.YtpbkncliepkhaaaDoor
open Go.ChangeShapes Go.WideShapes Go.ChangeAt Go.RowKit

theorem isKeyR_c (p : Option Addr) (q : Nat) (bs : List UInt8) (w : World) : Calls Tryd.prog 28 #[.slice p bs.length q] w fun e w' => e = .returned (.bool (is32 bs)) ∧ w' = w := by
  by_cases h : bs.length = 32
  · rw [show is32 bs = true by simp [is32, h]]
    have d1 : ((bs.length : Int) == 32) = true := by rw [beq_iff_eq]; omega
    clear h
    go_enter Tryd.func28, Tryd.ntmps28
    go_wp2
    go_ret
    exact ⟨rfl, rfl⟩
  · rw [show is32 bs = false by simp [is32, h]]
    have d1 : ((bs.length : Int) == 32) = false := by rw [beq_eq_false_iff_ne]; omega
    clear h
    go_enter Tryd.func28, Tryd.ntmps28
    go_wp2
    go_ret
    exact ⟨rfl, rfl⟩
end Go.Proofs.YtpbkncliepkhaaaDoor

/- What the rows' list of package-level variables gives: the two tables of the digest hold what the program's text lays (Tabs). -/
namespace Go.Proofs.YtpbkncliepkhaaaDoor
open Go.RowKit

theorem gStart : Tryd.prog.globalNamed "loop.example/g00375/impl.digestStart" = some 0 := by kernel_rfl
theorem gKeys : Tryd.prog.globalNamed "loop.example/g00375/impl.roundKeys" = some 1 := by kernel_rfl
theorem gStartT : (Tryd.prog.globals[0]?).map (·.type) = some 81 := by kernel_rfl
theorem gKeysT : (Tryd.prog.globals[1]?).map (·.type) = some 106 := by kernel_rfl
theorem cellsU : Tryd.prog.cellsOf 79 = 1 := by kernel_rfl
theorem cellsE : Tryd.prog.cellsOf 81 = 8 := by kernel_rfl
theorem cellsK : Tryd.prog.cellsOf 106 = 64 := by kernel_rfl

theorem heap_of_tab {P : Program} {w : World} {name : String} {k : IntKind} {zs : List Int} {g : Nat} (h : Lib.TabIs P w name k zs) (hg : P.globalNamed name = some g) :
    ∃ t fr, w.heap[g]? = some (.cells (zs.map fun z => Value.int k z).toArray t fr) := by
  unfold Lib.TabIs World.var? at h
  rw [hg, Option.bind_some] at h
  split at h
  · rename_i cs t fr e
    rw [Option.some.inj h] at e
    exact ⟨t, fr, e⟩
  · cases h
theorem u32_list (l : List Nat) : (l.map Int.ofNat).map (fun z => Value.int .u32 z) = l.map u32v := by simp [u32v]

theorem tabs_of {W : World} (h : laidMet Tryd.prog [("loop.example/g00375/impl.digestStart", Rows.laid_loop_example_g00375_impl_digestStart), ("loop.example/g00375/impl.roundKeys", Rows.laid_loop_example_g00375_impl_roundKeys)] W) : Tabs W := by
  have h1 := heap_of_tab (Lib.tabIs_of_head (k := .u32) (zs := startN.list.map Int.ofNat) gStart gStartT Tryd.underlying81 Tryd.underlying79 cellsU cellsE h) gStart
  have h2 := heap_of_tab (Lib.tabIs_of_head (k := .u32) (zs := keysN.map Int.ofNat) gKeys gKeysT Tryd.underlying106 Tryd.underlying79 cellsU cellsK h.tail) gKeys
  rw [u32_list] at h1 h2
  exact ⟨h1, h2⟩
end Go.Proofs.YtpbkncliepkhaaaDoor

