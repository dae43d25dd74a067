/- The contracts of the stream in the specification: spec.l4Left, spec.l4Step, spec.l4Quarter (they write the row that they are given), spec.l4Low, spec.l4Start, spec.l4Block, spec.l4Xor, spec.l4Nonce. -/
import Derived.Test.YtdbpnibcblelbaaGreatDoorJoint3
import Derived.Test.YtdbpnibcblelbaaGreatDoorJoint2
import Derived.Test.YtdbpnibcblelbaaGreatDoorJoint5
import Derived.Test.YtdbpnibcblelbaaGreatDoorJoint12
import Derived.BigRegion
import Derived.Deep.RegionWith
import Derived.Deep.AppendLies
import Derived.Test.YtdbpnibcblelbaaGreatDoorJoint11
import Derived.Test.YtdbpnibcblelbaaGreatDoorJoint1
import Derived.Test.YtdbpnibcblelbaaGreatDoorJoint6
import Derived.Test.YtdbpnibcblelbaaGreatDoorSpread
import Derived.Great.BuildSlice
namespace Go.Proofs.YtdbpnibcblelbaaGreatDoor
open Go.ChangeShapes Go.WideShapes Go.ChangeAt Go.RowKit
structure Known {α : Type} (a b : α) : Prop where
  eq : a = b
def OwnN (w : World) (B : Nat) (v : Value) (s : List Nat) : Prop := w.ownsRow B 2 1 v s.length (s.map i64v)
theorem i64_words (s : List Nat) : (s.map Int.ofNat).map i64z = s.map i64v := by simp [i64z, i64v]
theorem OwnN.toI {w : World} {B : Nat} {v : Value} {s : List Nat} (h : OwnN w B v s) : OwnI w B v (s.map Int.ofNat) := by
  unfold OwnI
  rw [i64_words, List.length_map]
  exact h
theorem OwnI.toN {w : World} {B : Nat} {v : Value} {s : List Nat} (h : OwnI w B v (s.map Int.ofNat)) : OwnN w B v s := by
  unfold OwnI at h
  rw [i64_words, List.length_map] at h
  exact h
theorem OwnN.cell {w : World} {B g n cap : Nat} {s : List Nat} (h : OwnN w B (.slice (some ⟨g, 0, none⟩) n cap) s) (hn : s.length = n) (i : Nat) (hi : i < n) : w.cell? ⟨g, i, none⟩ = some (.int .i64 (s.getD i 0 : Nat)) := by
  unfold OwnN at h
  rw [hn] at h
  rw [World.ownsRow.cellAt h i (by omega)]
  have : i < s.length := by omega
  simp [i64v, this]
theorem OwnN.frozen {w : World} {B g n cap : Nat} {s : List Nat} (h : OwnN w B (.slice (some ⟨g, 0, none⟩) n cap) s) (hn : s.length = n) (i : Nat) : w.frozen? ⟨g, i, none⟩ = false := by
  unfold OwnN at h
  rw [hn] at h
  exact World.ownsRow.frozenAt h i
theorem OwnN.set {w : World} {B g n cap : Nat} {s : List Nat} (h : OwnN w B (.slice (some ⟨g, 0, none⟩) n cap) s) (hn : s.length = n) (i x : Nat) : OwnN (w.setCell ⟨g, i, none⟩ (.int .i64 (x : Int))) B (.slice (some ⟨g, 0, none⟩) n cap) (s.set i x) := by
  unfold OwnN at h ⊢
  rw [hn] at h
  have R := World.ownsRow.stored h i (.int .i64 (x : Int))
  rw [List.length_set, List.map_set, hn]
  exact R.1
theorem OwnN.drewN {w : World} {B k : Nat} {v : Value} {s : List Nat} (h : OwnN w B v s) : OwnN (w.drewN k) B v s := h
theorem OwnN.stay {w w' : World} {B : Nat} {v : Value} {s : List Nat} (h : OwnN w B v s) (hb : Below w.heap.size w w') : OwnN w' B v s := (h.toI.stay hb).toN
theorem OwnN.other {w w' : World} {B : Nat} {v : Value} {s : List Nat} {row : Option Nat} (h : OwnN w B v s) (hg : w.grownBy w' row) (hne : ∀ k, v.ownBlock = some k → row ≠ some k) : OwnN w' B v s := (h.toI.other hg hne).toN
theorem OwnN.ge {w : World} {B : Nat} {v : Value} {s : List Nat} (h : OwnN w B v s) : ∀ k, v.ownBlock = some k → B ≤ k := h.toI.ge
theorem OwnN.lt {w : World} {B : Nat} {v : Value} {s : List Nat} (h : OwnN w B v s) : ∀ k, v.ownBlock = some k → k < w.heap.size := h.toI.lt
theorem putL_rd (w : World) (x : Nat) (h : x < 4294967296) (t : TypeId) (a b c d : Int) (ha : a = (x : Int) % 256) (hb : b = ((x : Int) / 256) % 256) (hc : c = ((x : Int) / 65536) % 256) (hd : d = (x : Int) / 16777216) :
    Rd (w.alloc (.cells #[.int .u8 a, .int .u8 b, .int .u8 c, .int .u8 d] t)) (some ⟨w.heap.size, 0, none⟩) 4 (putL x) := by
  have hA := Arr.new w [.int .u8 a, .int .u8 b, .int .u8 c, .int .u8 d] t
  have hu : ∀ v : Nat, v < 256 → u8v (UInt8.ofNat v) = .int .u8 (v : Int) := fun v hv => by unfold u8v; rw [UInt8.toNat_ofNat', Nat.mod_eq_of_lt hv]
  have hl : (putL x).length = 4 := rfl
  refine ⟨by rw [hl]; exact Nat.le_refl _, by unfold maxLen; decide, fun e => by simp at e, fun _ => ⟨_, _, rfl, fun i hi => ?_⟩⟩
  rw [Nat.zero_add, hA.cell, ← u8v_at hi]
  have e1 : u8v (UInt8.ofNat (x % 256)) = .int .u8 a := by rw [hu _ (by omega), ha]; congr 1
  have e2 : u8v (UInt8.ofNat (x / 256 % 256)) = .int .u8 b := by rw [hu _ (by omega), hb]; congr 1
  have e3 : u8v (UInt8.ofNat (x / 65536 % 256)) = .int .u8 c := by rw [hu _ (by omega), hc]; congr 1
  have e4 : u8v (UInt8.ofNat (x / 16777216)) = .int .u8 d := by rw [hu _ (by omega), hd]; congr 1
  simp only [putL, List.map_cons, List.map_nil, e1, e2, e3, e4]
end Go.Proofs.YtdbpnibcblelbaaGreatDoor
/- The contracts of what reads messages in the specification: l6Unpack, UnpackMsgs (code, place, messages, each of which owns its memory), SameMsgs. What was there stays. -/
namespace Go.Proofs.YtdbpnibcblelbaaGreatDoor
open Go.ChangeShapes Go.WideShapes Go.ChangeAt Go.RowKit
theorem nil_ownM (w : World) (B : Nat) : OwnL 82 msgC w B (.slice none 0 0) [] [] [] := ⟨World.ownsRow_nil _ _ _ _, ⟨rfl, rfl⟩, by simp [Value.ownBlock]⟩
end Go.Proofs.YtdbpnibcblelbaaGreatDoor
/- The contracts of blocks in the specification: l6Blocks, PackBlocks, l6Split, UnpackBlocks: code and bytes or blocks, at every argument. What was there stays. -/
namespace Go.Proofs.YtdbpnibcblelbaaGreatDoor
open Go.ChangeShapes Go.WideShapes Go.ChangeAt Go.RowKit
theorem nil_ownB (w : World) (B : Nat) : OwnL 22 bytC w B (.slice none 0 0) [] [] [] := ⟨World.ownsRow_nil _ _ _ _, ⟨rfl, rfl⟩, by simp [Value.ownBlock]⟩
theorem ubC_many {data : List UInt8} (h : ¬ data.length ≤ 160) : ubC data = 2 ∧ ubL data = [] := by rw [ubC, ubL, if_neg h, if_neg h]; exact ⟨rfl, rfl⟩
theorem ubC_none {data : List UInt8} (h : data.length ≤ 160) (h2 : splitR data 0 [] = none) : ubC data = 5 ∧ ubL data = [] := by rw [ubC, ubL, if_pos h, if_pos h, h2]; exact ⟨rfl, rfl⟩
theorem ubC_some {data : List UInt8} {r : List BlkD} (h : data.length ≤ 160) (h2 : splitR data 0 [] = some r) : ubC data = 0 ∧ ubL data = r := by rw [ubC, ubL, if_pos h, if_pos h, h2]; exact ⟨rfl, rfl⟩
end Go.Proofs.YtdbpnibcblelbaaGreatDoor
/- The contracts of the digest in the specification: spec.l2Keys, spec.l2Start, spec.l2Digest: the answer is digestN, in a row of its own. For at most 600 bytes. -/
namespace Go.Proofs.YtdbpnibcblelbaaGreatDoor
open Go.ChangeShapes Go.WideShapes Go.ChangeAt Go.RowKit
theorem wpQuiet_load_row {P : Program} {ops : Array Oper} {C : World → Prop} {Q : Act → Prop} {a : Act} {o : Oper} {rest : List Oper} (hgd : o.guard = none) (ty : TypeId) (x : Operand) (ho : o.op = .load ty x)
    (g : Nat) (hx : a.eval x = .pointer (some ⟨g, 0, none⟩)) (t : TypeId) (cs : Array Value) (fr : Nat × Nat) (d : TypeDesc) (hg : ∀ w, C w → w.heap[g]? = some (.cells cs t fr))
    (hu : P.underlying ty = some d) (hd : (match d with | .struct _ | .array _ _ => true | _ => false) = true) (hi : (P.info? ty).map (·.size) = some cs.size)
    (h : wpQuiet P ops C Q rest (a.put o.dst (.agg cs))) : wpQuiet P ops C Q (o :: rest) a := by
  unfold wpQuiet
  rw [if_pos (by simp [Region.wanted, hgd])]
  refine ⟨.agg cs, fun w hw => ?_, h⟩
  unfold Oper.quietAt execOp
  simp only [ho, hx, Instr.loadAt, Instr.sureAddr, Sem.run_bind, Sem.run_pure, Result.andThen_ok, run_loadVar_row w g t ty cs fr d (hg w hw) hu hd hi]
  exact ⟨rfl, rfl⟩
theorem wp_region_tail_z {P : Program} {ops : Array Oper} {C : World → Prop} {Q : Exit → Act → World → Prop} {a : Act} {w : World} {id : Nat} (n : Nat) {o : Oper} (hn : ops.size = n + 1) (ho : ops[n]? = some o) (hgd : o.guard = none)
    (hm : P.follows .mixedOrders = true) (hs : Region.noSelect ops = true) (hB : lexT .any ops n 0 (Array.replicate ops.size false) = true) (hw : waitsAll .any ops n = true) (hC : C { w with drawn := w.drawn + 1 })
    (h : ∀ Z : Act → Prop, (∀ a', (∀ w', C w' → ∀ K : Act → World → Prop, (∀ a'' w'', Q .normal a'' w'' → K a'' w'') → o.wp P a' w' K Q) → Z a') → wpQuiet P ops C Z (ops.toList.take n) a) : (Code.region id ops true).wp P Q a w :=
  wp_region_tail n hn ho hgd hm hs hB hw hC (h _ (fun _ h => h))
theorem blocksN_succ (bs : List UInt8) (k : Nat) : blocksN bs (k + 1) = addS (blocksN bs k) (roundsN (spreadN ((bs.drop (64 * k)).take 64)) (blocksN bs k) 64) := rfl
theorem roundsN_succ (ws : List Nat) (s : S8) (k : Nat) : roundsN ws s (k + 1) = roundN (roundsN ws s k) (ws.getD k 0) (keysN.getD k 0) := rfl
def addV (f : Nat → Value) (s t : S8) (j : Nat) : List Value := (List.range 8).map fun i => f (if i < j then (s.list.getD i 0 + t.list.getD i 0) % 4294967296 else s.list.getD i 0)
theorem addV_zero (f : Nat → Value) (s t : S8) : addV f s t 0 = s.list.map f := rfl
theorem addV_all (f : Nat → Value) (s t : S8) : addV f s t 8 = (addS s t).list.map f := rfl
theorem lt8 {j : Nat} (h : j < 8) : j = 0 ∨ j = 1 ∨ j = 2 ∨ j = 3 ∨ j = 4 ∨ j = 5 ∨ j = 6 ∨ j = 7 := by omega
theorem addV_set (f : Nat → Value) (s t : S8) {j : Nat} (h : j < 8) : (addV f s t j).set j (f ((s.list.getD j 0 + t.list.getD j 0) % 4294967296)) = addV f s t (j + 1) := by
  rcases lt8 h with rfl | rfl | rfl | rfl | rfl | rfl | rfl | rfl <;> rfl
theorem addV_at (f : Nat → Value) (s t : S8) {j : Nat} (h : j < 8) : (addV f s t j)[j]? = some (f (s.list.getD j 0)) := by
  rcases lt8 h with rfl | rfl | rfl | rfl | rfl | rfl | rfl | rfl <;> rfl
theorem listV_at (f : Nat → Value) (s : S8) {j : Nat} (h : j < 8) : (s.list.map f)[j]? = some (f (s.list.getD j 0)) := by
  rcases lt8 h with rfl | rfl | rfl | rfl | rfl | rfl | rfl | rfl <;> rfl
def takeB (xs : List Nat) (j : Nat) : List UInt8 := (xs.take j).flatMap (fun x => putB x 4)
theorem takeB_len (s : S8) {j : Nat} (h : j ≤ 8) : (takeB s.list j).length = 4 * j := by
  rcases (show j < 8 ∨ j = 8 by omega) with h | rfl
  · rcases lt8 h with rfl | rfl | rfl | rfl | rfl | rfl | rfl | rfl <;> simp [takeB, S8.list, putB_len]
  · simp [takeB, S8.list, putB_len]
theorem takeB_succ (s : S8) {j : Nat} (h : j < 8) : takeB s.list j ++ putB (s.list.getD j 0) 4 = takeB s.list (j + 1) := by
  rcases lt8 h with rfl | rfl | rfl | rfl | rfl | rfl | rfl | rfl <;> simp [takeB, S8.list]
theorem takeB_all (s : S8) : takeB s.list 8 = stateB s := by simp [takeB, stateB, S8.list]
theorem padN_len_n (bs : List UInt8) : (padN bs).length = 64 * ((bs.length + 72) / 64) := by rw [padN_len64]; omega
end Go.Proofs.YtdbpnibcblelbaaGreatDoor
