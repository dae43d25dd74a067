import Derived.Test.YtbaldmmbphbinaaGreatDoorJoint15
import Derived.Test.YtbaldmmbphbinaaGreatDoorRows
import Derived.Lib.LaidTab
import Derived.Stop.LaidErr
namespace Go.Proofs.YtbaldmmbphbinaaGreatDoor
open Go.RowKit
theorem zLP : Tryz.prog.globalNamed "loop.example/g00375/impl.digestStart" = some 0 := by kernel_rfl
theorem zMo : Tryz.prog.globalNamed "loop.example/g00375/impl.roundKeys" = some 1 := by kernel_rfl
theorem zMI:(Tryz.prog.globals[0]?).map (·.type)=some 173:=by kernel_rfl
theorem zMp:(Tryz.prog.globals[1]?).map (·.type)=some 202:=by kernel_rfl
theorem zLQ:Tryz.prog.cellsOf 171=1:=by kernel_rfl
theorem zMq:Tryz.prog.cellsOf 173=8:=by kernel_rfl
theorem zMr:Tryz.prog.cellsOf 202=64:=by kernel_rfl
theorem zEN {P:Program} {w:World} {name:String} {k:IntKind} {zs:List Int} {g:Nat} (h:Lib.TabIs P w name k zs) (hg:P.globalNamed name=some g):
  ∃ t fr,w.heap[g]?=some (.cells (zs.map fun z=>Value.int k z).toArray t fr):=by
 unfold Lib.TabIs World.var? at h;rw[hg,Option.bind_some] at h;split at h
 ·rename_i cs t fr e;rw[Option.some.inj h] at e;exact⟨t,fr,e⟩
 ·cases h
theorem zK0 (l:List Nat):(l.map Int.ofNat).map (fun z=>Value.int .u32 z)=l.map u32v:=by simp[u32v]
theorem zMJ {W : World} (h : laidMet Tryz.prog [("loop.example/g00375/impl.digestStart", Rows.laid_loop_example_g00375_impl_digestStart), ("loop.example/g00375/impl.roundKeys", Rows.laid_loop_example_g00375_impl_roundKeys)] W) : Tabs W := by
 have h1:=zEN (Lib.tabIs_of_head (k:=.u32) (zs:=startN.list.map Int.ofNat) zLP zMI Tryz.underlying173 Tryz.underlying171 zLQ zMq h) zLP;have h2:=zEN (Lib.tabIs_of_head (k:=.u32) (zs:=keysN.map Int.ofNat) zMo zMp Tryz.underlying202 Tryz.underlying171 zLQ zMr h.tail) zMo;rw[zK0] at h1 h2;exact⟨h1,h2⟩
end Go.Proofs.YtbaldmmbphbinaaGreatDoor
