/- The contracts of the laws' helpers on BytesResult: eqBytesResult answers true at equal answers; markBytesResult lays marks into the answer's own row; heldBytesResult finds them. For at most 1048576 bytes. -/
import Derived.Test.YthkiabcbpkhgiaaDoorCopy
import Derived.Test.YthkiabcbpkhgiaaDoorDigI
import Derived.Test.YthkiabcbpkhgiaaDoorRows
import Derived.Lib.LaidTab
import Derived.Stop.LaidErr
namespace Go.Proofs.YthkiabcbpkhgiaaDoor
open Go.ChangeShapes Go.WideShapes Go.ChangeAt Go.RowKit

set_option maxRecDepth 4000 in
set_option maxHeartbeats 1000000 in
theorem eqBytes_c (c : Int) (a b : Option Addr) (ca cb : Nat) (bs : List UInt8) (w : World) (hra : Rd w a ca bs) (hrb : Rd w b cb bs) :
    Calls Tryd.prog 25 #[.agg #[.int .i64 c, .slice a bs.length ca], .agg #[.int .i64 c, .slice b bs.length cb]] w fun e w' => e = .returned (.bool true) ∧ Below w.heap.size w w' := by
  go_enter Tryd.func25, Tryd.ntmps25
  go_wp2_with fail
  refine (eqByteS_c _ _ _ _ bs _ ?_ ?_).mono ?_
  · exact hra.keep (((Below.refl _ _).alloc (Nat.le_refl _) _).alloc (by simp) _)
  · exact hrb.keep (((Below.refl _ _).alloc (Nat.le_refl _) _).alloc (by simp) _)
  · rintro e w1 ⟨rfl, hb1⟩
    go_wp2
    go_ret
    exact ⟨rfl, Below.step (((Below.refl _ _).alloc (Nat.le_refl _) _).alloc (by simp) _) hb1⟩

set_option maxRecDepth 4000 in
set_option maxHeartbeats 1000000 in
theorem markBytes_c (c : Int) (B : Nat) (v : Value) (bs : List UInt8) (w : World) (m : Nat) (ho : Own w B v bs) (hm : m + bs.length ≤ 1048577) :
    Calls Tryd.prog 28 #[.agg #[.int .i64 c, v], .int .i64 m] w fun e w' => e = .returned (.int .i64 ((m : Int) + (bs.length : Int))) ∧ Own w' B v (marks m bs.length) ∧ w.grownBy w' v.ownBlock := by
  go_enter Tryd.func28, Tryd.ntmps28
  go_wp2_with fail
  refine (markByteS_c B v bs m _ (ho.stay ((Below.refl _ _).alloc (Nat.le_refl _) _)) (by omega)).mono ?_
  rintro e w1 ⟨rfl, ho1, hg1⟩
  go_wp2
  go_ret
  exact ⟨rfl, ho1, grownBy_trans (World.grownBy_alloc _ _ _) hg1⟩

set_option maxRecDepth 4000 in
set_option maxHeartbeats 1000000 in
theorem heldBytes_c (c : Int) (a : Option Addr) (cap n m : Nat) (w : World) (hr : Rd w a cap (marks m n)) (hm : m + n ≤ 1048577) :
    Calls Tryd.prog 29 #[.agg #[.int .i64 c, .slice a n cap], .int .i64 m] w fun e w' => e = .returned (.int .i64 ((m : Int) + (n : Int))) ∧ Below w.heap.size w w' := by
  go_enter Tryd.func29, Tryd.ntmps29
  go_wp2_with fail
  refine (heldByteS_c a cap n m _ (hr.keep ((Below.refl _ _).alloc (Nat.le_refl _) _)) hm).mono ?_
  rintro e w1 ⟨rfl, rfl⟩
  go_wp2
  go_ret
  exact ⟨rfl, (Below.refl _ _).alloc (Nat.le_refl _) _⟩

theorem markBytes1_c (c : Int) (B : Nat) (v : Value) (bs : List UInt8) (w : World) (ho : Own w B v bs) (hm : bs.length ≤ 1048576) :
    Calls Tryd.prog 28 #[.agg #[.int .i64 c, v], .int .i64 1] w fun e w' => e = .returned (.int .i64 (1 + (bs.length : Int))) ∧ Own w' B v (marks 1 bs.length) ∧ w.grownBy w' v.ownBlock :=
  markBytes_c c B v bs w 1 ho (by omega)
theorem heldBytes1_c (c : Int) (B : Nat) (a : Option Addr) (cap n : Nat) (w : World) (ho : Own w B (.slice a n cap) (marks 1 n)) (hm : n ≤ 1048576) :
    Calls Tryd.prog 29 #[.agg #[.int .i64 c, .slice a n cap], .int .i64 1] w fun e w' => e = .returned (.int .i64 (1 + (n : Int))) ∧ Below w.heap.size w w' :=
  heldBytes_c c a cap n 1 w (Rd.own ho) (by omega)
theorem eqBytes2_c (c : Int) (B1 B2 : Nat) (a b : Option Addr) (ca cb : Nat) (bs : List UInt8) (w : World) (h1 : Own w B1 (.slice a bs.length ca) bs) (h2 : Own w B2 (.slice b bs.length cb) bs) :
    Calls Tryd.prog 25 #[.agg #[.int .i64 c, .slice a bs.length ca], .agg #[.int .i64 c, .slice b bs.length cb]] w fun e w' => e = .returned (.bool true) ∧ Below w.heap.size w w' :=
  eqBytes_c c a b ca cb bs w (Rd.own h1) (Rd.own h2)
end Go.Proofs.YthkiabcbpkhgiaaDoor

/- What the rows' list of package-level variables gives: the two tables of the digest hold what the program's text lays (Tabs). -/
namespace Go.Proofs.YthkiabcbpkhgiaaDoor
open Go.RowKit

theorem gStart : Tryd.prog.globalNamed "loop.example/g00375/impl.digestStart" = some 0 := by kernel_rfl
theorem gKeys : Tryd.prog.globalNamed "loop.example/g00375/impl.roundKeys" = some 1 := by kernel_rfl
theorem gStartT : (Tryd.prog.globals[0]?).map (·.type) = some 58 := by kernel_rfl
theorem gKeysT : (Tryd.prog.globals[1]?).map (·.type) = some 77 := by kernel_rfl
theorem cellsU : Tryd.prog.cellsOf 56 = 1 := by kernel_rfl
theorem cellsE : Tryd.prog.cellsOf 58 = 8 := by kernel_rfl
theorem cellsK : Tryd.prog.cellsOf 77 = 64 := by kernel_rfl

theorem heap_of_tab {P : Program} {w : World} {name : String} {k : IntKind} {zs : List Int} {g : Nat} (h : Lib.TabIs P w name k zs) (hg : P.globalNamed name = some g) :
    ∃ t fr, w.heap[g]? = some (.cells (zs.map fun z => Value.int k z).toArray t fr) := by
  unfold Lib.TabIs World.var? at h
  rw [hg, Option.bind_some] at h
  split at h
  · rename_i cs t fr e
    rw [Option.some.inj h] at e
    exact ⟨t, fr, e⟩
  · cases h
theorem u32_list (l : List Nat) : (l.map Int.ofNat).map (fun z => Value.int .u32 z) = l.map u32v := by simp [u32v]

theorem tabs_of {W : World} (h : laidMet Tryd.prog [("loop.example/g00375/impl.digestStart", Rows.laid_loop_example_g00375_impl_digestStart), ("loop.example/g00375/impl.roundKeys", Rows.laid_loop_example_g00375_impl_roundKeys)] W) : Tabs W := by
  have h1 := heap_of_tab (Lib.tabIs_of_head (k := .u32) (zs := startN.list.map Int.ofNat) gStart gStartT Tryd.underlying58 Tryd.underlying56 cellsU cellsE h) gStart
  have h2 := heap_of_tab (Lib.tabIs_of_head (k := .u32) (zs := keysN.map Int.ofNat) gKeys gKeysT Tryd.underlying77 Tryd.underlying56 cellsU cellsK h.tail) gKeys
  rw [u32_list] at h1 h2
  exact ⟨h1, h2⟩
end Go.Proofs.YthkiabcbpkhgiaaDoor

