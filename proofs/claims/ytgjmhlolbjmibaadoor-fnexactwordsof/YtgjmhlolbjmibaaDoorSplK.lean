/- The shelf's facts on strings.Split and strings.Clone at the program's own numbers (written by tools/txtk.py), and what they come to. -/
import Derived.Shelf.Strings.Split
import Derived.Shelf.Strconv.Clone
import Derived.Test.YtgjmhlolbjmibaaDoorRows
import Derived.Test.YtgjmhlolbjmibaaDoorCutM
import Derived.Test.YtgjmhlolbjmibaaDoorTxtA
namespace Go.Proofs.YtgjmhlolbjmibaaDoor
open Go Go.Shelf Go.RowKit

def laysM316_ren : Go.Shelf.Ren := ⟨fun | 316 => 48 | n => n, fun | 9 => 9 | 3 => 3 | 4 => 4 | 37 => 22 | 0 => 0 | 127 => 76 | 5 => 5 | n => n, fun | n => n⟩
theorem laysM316 : Go.Proofs.LaysM.n316 Tryd.prog laysM316_ren := {
  mixed := by kernel_rfl
  f316 := Tryd.func48.trans (congrArg some (by kernel_rfl))
  t0 := Tryd.underlying0
  a0 := Tryd.isAgg0
  z0 := Tryd.sizeOf0
  v0 := Tryd.zeroValue0
  t3 := Tryd.underlying3
  a3 := Tryd.isAgg3
  z3 := Tryd.sizeOf3
  v3 := Tryd.zeroValue3
  t4 := Tryd.underlying4
  a4 := Tryd.isAgg4
  z4 := Tryd.sizeOf4
  v4 := Tryd.zeroValue4
  t9 := Tryd.underlying9
  a9 := Tryd.isAgg9
  z9 := Tryd.sizeOf9
  v9 := Tryd.zeroValue9
  t37 := Tryd.underlying22
  a37 := Tryd.isAgg22
  z37 := Tryd.sizeOf22
  v37 := Tryd.zeroValue22
  t127 := Tryd.underlying76
  a127 := Tryd.isAgg76
  z127 := Tryd.sizeOf76
  v127 := Tryd.zeroValue76
  t5 := Tryd.underlying5
  a5 := Tryd.isAgg5
  z5 := Tryd.sizeOf5
  v5 := Tryd.zeroValue5
  i0 := by kernel_rfl
  i3 := by kernel_rfl
  i4 := by kernel_rfl
  i5 := by kernel_rfl
  i9 := by kernel_rfl
  i37 := by kernel_rfl
  i127 := by kernel_rfl }
def lays146_ren : Go.Shelf.Ren := ⟨fun | 146 => 30 | 221 => 47 | 268 => 55 | 138 => 56 | 143 => 57 | 195 => 64 | 197 => 65 | 218 => 66 | 219 => 67 | 260 => 73 | 217 => 74 | 225 => 75 | 224 => 76 | 267 => 77 | 266 => 80 | 314 => 81 | n => n, fun | 9 => 9 | 31 => 34 | 3 => 3 | 4 => 4 | 0 => 0 | 105 => 89 | 21 => 21 | 5 => 5 | 46 => 62 | 119 => 100 | 139 => 103 | 138 => 102 | 146 => 104 | 51 => 95 | n => n, fun | 1 => 1 | 3 => 2 | 4 => 3 | n => n⟩
theorem lays146 : Go.Proofs.Lays.n146 Tryd.prog lays146_ren := {
  mixed := by kernel_rfl
  f138 := Tryd.func56.trans (congrArg some (by kernel_rfl))
  f143 := Tryd.func57.trans (congrArg some (by kernel_rfl))
  f146 := Tryd.func30.trans (congrArg some (by kernel_rfl))
  f195 := Tryd.func64.trans (congrArg some (by kernel_rfl))
  f197 := Tryd.func65.trans (congrArg some (by kernel_rfl))
  f217 := Tryd.func74.trans (congrArg some (by kernel_rfl))
  f218 := Tryd.func66.trans (congrArg some (by kernel_rfl))
  f219 := Tryd.func67.trans (congrArg some (by kernel_rfl))
  f221 := Tryd.func47.trans (congrArg some (by kernel_rfl))
  f224 := Tryd.func76.trans (congrArg some (by kernel_rfl))
  f225 := Tryd.func75.trans (congrArg some (by kernel_rfl))
  f260 := Tryd.func73.trans (congrArg some (by kernel_rfl))
  f266 := Tryd.func80.trans (congrArg some (by kernel_rfl))
  f267 := Tryd.func77.trans (congrArg some (by kernel_rfl))
  f268 := Tryd.func55.trans (congrArg some (by kernel_rfl))
  f314 := Tryd.func81.trans (congrArg some (by kernel_rfl))
  t0 := Tryd.underlying0
  a0 := Tryd.isAgg0
  z0 := Tryd.sizeOf0
  v0 := Tryd.zeroValue0
  t3 := Tryd.underlying3
  a3 := Tryd.isAgg3
  z3 := Tryd.sizeOf3
  v3 := Tryd.zeroValue3
  t4 := Tryd.underlying4
  a4 := Tryd.isAgg4
  z4 := Tryd.sizeOf4
  v4 := Tryd.zeroValue4
  t5 := Tryd.underlying5
  a5 := Tryd.isAgg5
  z5 := Tryd.sizeOf5
  v5 := Tryd.zeroValue5
  t9 := Tryd.underlying9
  a9 := Tryd.isAgg9
  z9 := Tryd.sizeOf9
  v9 := Tryd.zeroValue9
  t21 := Tryd.underlying21
  a21 := Tryd.isAgg21
  z21 := Tryd.sizeOf21
  v21 := Tryd.zeroValue21
  t31 := Tryd.underlying34
  a31 := Tryd.isAgg34
  z31 := Tryd.sizeOf34
  v31 := Tryd.zeroValue34
  t46 := Tryd.underlying62
  a46 := Tryd.isAgg62
  z46 := Tryd.sizeOf62
  v46 := Tryd.zeroValue62
  t51 := Tryd.underlying95
  a51 := Tryd.isAgg95
  z51 := Tryd.sizeOf95
  v51 := Tryd.zeroValue95
  t105 := Tryd.underlying89
  a105 := Tryd.isAgg89
  z105 := Tryd.sizeOf89
  v105 := Tryd.zeroValue89
  t119 := Tryd.underlying100
  a119 := Tryd.isAgg100
  z119 := Tryd.sizeOf100
  t138 := Tryd.underlying102
  a138 := Tryd.isAgg102
  z138 := Tryd.sizeOf102
  v138 := Tryd.zeroValue102
  t139 := Tryd.underlying103
  a139 := Tryd.isAgg103
  z139 := Tryd.sizeOf103
  v139 := Tryd.zeroValue103
  t146 := Tryd.underlying104
  a146 := Tryd.isAgg104
  z146 := Tryd.sizeOf104
  v146 := Tryd.zeroValue104
  g1 := by kernel_rfl
  g3 := by kernel_rfl
  g4 := by kernel_rfl }
theorem indexB_one (c : UInt8) (x : ByteArray) : Go.Lib.indexB x ⟨#[c]⟩ = Go.Lib.indexByte x.data.toList c := index_one c x.data.toList
theorem countB_one (c : UInt8) (x : ByteArray) : Go.Lib.countB x ⟨#[c]⟩ = Go.Lib.countByte x.data.toList c := Go.Lib.count_one c x.data.toList
set_option maxRecDepth 4000 in
set_option maxHeartbeats 1000000 in
theorem split_c (c : UInt8) (l : List UInt8) (w : World) (hl : l.length ≤ 1048576) :
    Calls Tryd.prog 30 #[.string (strB l), .string ⟨#[c]⟩] w fun e w' => ∃ v, e = .returned v ∧ OwnX w' w.heap.size v (cutL c l) ∧ Below w.heap.size w w' := by
  have hsz : (strB l).size = l.length := strB_size l
  have hle : Go.Lib.countB (strB l) ⟨#[c]⟩ ≤ (strB l).size := Go.Lib.countB_le ⟨#[c]⟩ (Nat.le_refl 1) (strB l).size (strB l) (Nat.le_refl _)
  have hlen := Go.Lib.splitB_all ⟨#[c]⟩ (Nat.le_refl 1) 0 (Go.Lib.countB (strB l) ⟨#[c]⟩) (strB l) rfl
  have k := Go.Proofs.Any.strings_genSplit_core (P := Tryd.prog) (ρ := lays146_ren) { lays146 with } infoStr (strB l) ⟨#[c]⟩ 0 (-1) (Go.Lib.countB (strB l) ⟨#[c]⟩ + 1) w (by omega) (Nat.le_refl 1) (Nat.zero_le _)
    (fun x cs _ => by rw [indexB_one]; exact Go.Proofs.Any.strings_Index_one (P := Tryd.prog) (ρ := lays146_ren) { lays146 with } x c _)
    (by rw [countB_one]; exact Go.Proofs.Any.strings_Count_one (P := Tryd.prog) (ρ := lays146_ren) { lays146 with } (strB l) c w) (by decide) (by decide) (by rw [if_pos (by decide)]; omega)
  rw [Nat.add_sub_cancel, hlen] at k
  have hcells : Go.Lib.cellsOf (Go.Lib.splitB ⟨#[c]⟩ 0 (Go.Lib.countB (strB l) ⟨#[c]⟩) (strB l)) (Go.Lib.countB (strB l) ⟨#[c]⟩ + 1) = ((cutL c l).map txtV).toArray := by
    rw [← hlen, Go.Lib.cellsOf_full, splitB_cut]
  have hn : Go.Lib.countB (strB l) ⟨#[c]⟩ + 1 = (cutL c l).length := by rw [← splitB_len c l, hlen]
  rw [hcells, hn] at k
  replace k : Calls Tryd.prog 47 #[.string (strB l), .string ⟨#[c]⟩, .int .i64 0, .int .i64 (-1)] w fun e w' => e = .returned (.slice (some ⟨w.heap.size, 0, none⟩) (cutL c l).length (cutL c l).length) ∧ w' = w.alloc (.cells ((cutL c l).map txtV).toArray 9) := k
  have hlc := cutL_len c l
  clear hsz hle hlen hcells hn
  go_enter Tryd.func30, Tryd.ntmps30
  go_wp2_with fail
  refine k.mono ?_
  rintro e w' ⟨rfl, rfl⟩
  have hown := World.ownsRow_lit (base := w.heap.size) (e := 9) (size := 1) w ((cutL c l).map txtV).toArray (cutL c l).length (Nat.le_refl _) (by unfold maxLen; omega) (by simp)
  have BW := alloc_below w (.cells ((cutL c l).map txtV).toArray 9)
  generalize w.alloc (.cells ((cutL c l).map txtV).toArray 9) = w1 at *
  clear k
  go_wp2
  go_ret
  exact ⟨_, rfl, by unfold OwnX; simpa using hown, BW⟩
set_option maxRecDepth 4000 in
set_option maxHeartbeats 1000000 in
theorem clone_c (s : ByteArray) (w : World) (hl : s.size ≤ 1048576) :
    Calls Tryd.prog 31 #[.string s] w fun e w' => e = .returned (.string s) ∧ Below w.heap.size w w' := by
  have k : Calls Tryd.prog 48 #[.string s] w fun e w' => e = .returned (.string s) ∧ Below w.heap.size w w' := Go.Proofs.Any.stringslite_Clone (P := Tryd.prog) (ρ := laysM316_ren) laysM316 s w (by omega)
  go_enter Tryd.func31, Tryd.ntmps31
  go_wp2_with fail
  refine k.mono ?_
  rintro e w' ⟨rfl, hb⟩
  go_wp2
  go_ret
  exact ⟨rfl, hb⟩
end Go.Proofs.YtgjmhlolbjmibaaDoor
