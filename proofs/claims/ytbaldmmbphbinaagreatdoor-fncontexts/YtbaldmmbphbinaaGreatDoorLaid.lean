/- What the rows' list of package-level variables gives: the two tables of the digest hold what the program's text lays (Tabs). -/
import Derived.Test.YtbaldmmbphbinaaGreatDoorJoint15
import Derived.Test.YtbaldmmbphbinaaGreatDoorRows
import Derived.Lib.LaidTab
import Derived.Stop.LaidErr
namespace Go.Proofs.YtbaldmmbphbinaaGreatDoor
open Go.RowKit

theorem gStart : Tryz.prog.globalNamed "loop.example/g00375/impl.digestStart" = some 0 := by kernel_rfl
theorem gKeys : Tryz.prog.globalNamed "loop.example/g00375/impl.roundKeys" = some 1 := by kernel_rfl
theorem gStartT : (Tryz.prog.globals[0]?).map (·.type) = some 173 := by kernel_rfl
theorem gKeysT : (Tryz.prog.globals[1]?).map (·.type) = some 202 := by kernel_rfl
theorem cellsU : Tryz.prog.cellsOf 171 = 1 := by kernel_rfl
theorem cellsE : Tryz.prog.cellsOf 173 = 8 := by kernel_rfl
theorem cellsK : Tryz.prog.cellsOf 202 = 64 := by kernel_rfl

theorem heap_of_tab {P : Program} {w : World} {name : String} {k : IntKind} {zs : List Int} {g : Nat} (h : Lib.TabIs P w name k zs) (hg : P.globalNamed name = some g) :
    ∃ t fr, w.heap[g]? = some (.cells (zs.map fun z => Value.int k z).toArray t fr) := by
  unfold Lib.TabIs World.var? at h
  rw [hg, Option.bind_some] at h
  split at h
  · rename_i cs t fr e
    rw [Option.some.inj h] at e
    exact ⟨t, fr, e⟩
  · cases h
theorem u32_list (l : List Nat) : (l.map Int.ofNat).map (fun z => Value.int .u32 z) = l.map u32v := by simp [u32v]

theorem tabs_of {W : World} (h : laidMet Tryz.prog [("loop.example/g00375/impl.digestStart", Rows.laid_loop_example_g00375_impl_digestStart), ("loop.example/g00375/impl.roundKeys", Rows.laid_loop_example_g00375_impl_roundKeys)] W) : Tabs W := by
  have h1 := heap_of_tab (Lib.tabIs_of_head (k := .u32) (zs := startN.list.map Int.ofNat) gStart gStartT Tryz.underlying173 Tryz.underlying171 cellsU cellsE h) gStart
  have h2 := heap_of_tab (Lib.tabIs_of_head (k := .u32) (zs := keysN.map Int.ofNat) gKeys gKeysT Tryz.underlying202 Tryz.underlying171 cellsU cellsK h.tail) gKeys
  rw [u32_list] at h1 h2
  exact ⟨h1, h2⟩
end Go.Proofs.YtbaldmmbphbinaaGreatDoor

