/- The contract of bytes.Clone: a copy in a row of its own. What was there stays. -/
import Derived.Test.YtdbpnibcblelbaaDoorJoinI
import Derived.Handy
import Derived.Test.YtdbpnibcblelbaaDoorWire
import Derived.Test.YtdbpnibcblelbaaDoorJoint7
import Derived.Test.YtdbpnibcblelbaaDoorJoint6
import Derived.Test.YtdbpnibcblelbaaDoorJoint10
import Derived.Test.YtdbpnibcblelbaaDoorPick
import Derived.Test.YtdbpnibcblelbaaDoorPad
import Derived.Test.YtdbpnibcblelbaaDoorJoint9
import Derived.Test.YtdbpnibcblelbaaDoorPickG
import Derived.Deep.AppendLies
namespace Go.Proofs.YtdbpnibcblelbaaDoor
open Go.ChangeShapes Go.WideShapes Go.ChangeAt Go.RowKit

set_option maxRecDepth 4000 in
set_option maxHeartbeats 1000000 in
theorem bytesClone_c (p : Option Addr) (q : Nat) (bs : List UInt8) (w : World) (hr : Rd w p q bs) (hl : bs.length ≤ 1000000) :
    Calls Tryd.prog 54 #[.slice p bs.length q] w fun e w' => ∃ u, e = .returned u ∧ Own w' w.heap.size u bs ∧ Below w.heap.size w w' := by
  cases p with
  | none =>
    have hq := hr.2.2.1 rfl
    have hb : bs = [] := List.eq_nil_of_length_eq_zero (by have := hr.1; omega)
    subst hb hq
    have hnil : ∀ w, (Go.binOp .eql 22 (.slice none 0 0) (.slice none 0 0)).run Tryd.prog w = .ok (.bool true) w := by intro w; kernel_rfl
    go_enter Tryd.func54, Tryd.ntmps54
    go_wp2
    go_ret
    exact ⟨_, rfl, Own_nil _ _, Below.refl _ _⟩
  | some ad =>
    have hnil : ∀ w, (Go.binOp .eql 22 (.slice (some ad) bs.length q) (.slice none 0 0)).run Tryd.prog w = .ok (.bool false) w := by intro w; kernel_rfl
    have hr2 := hr.keep (alloc_below w (Obj.cells #[] 5))
    have ho := none_own8 w w.heap.size (Nat.le_refl _)
    go_enter Tryd.func54, Tryd.ntmps54
    go_wp2_with (at_builtin; refine wpList_append_rd rfl (.tmp 5) (.tmp 6) rfl w.heap.size _ [] rfl ho (some ad) q bs rfl hr2 (by simp; omega) (by simp) ?_; intro v' w' ho' hg')
    have RB := (alloc_below w (Obj.cells #[] 5)).grown hg' (by simp) (fun k hk => ho.ge k hk)
    go_ret
    exact ⟨_, rfl, ho', RB⟩
end Go.Proofs.YtdbpnibcblelbaaDoor

/- The contracts of what chapter 6 of the program is made of: bytes.Clone, a piece (a message or a block) asked for its fault and its bytes, its head, pieces packed behind one another. What was there stays. No conditions but those in each line. -/
namespace Go.Proofs.YtdbpnibcblelbaaDoor
open Go.ChangeShapes Go.WideShapes Go.ChangeAt Go.RowKit


end Go.Proofs.YtdbpnibcblelbaaDoor

/- The contracts of the wire in the specification: l6Fault, MsgFault, l6Pack, PackMsg, l6PackAll, PackMsgs: code and bytes, at every argument. What was there stays. -/
namespace Go.Proofs.YtdbpnibcblelbaaDoor
open Go.ChangeShapes Go.WideShapes Go.ChangeAt Go.RowKit

def pmL (a : MsgD) : List UInt8 := if faultW a.1 a.2.length = 0 then packW a.1 a.2 else []
theorem pmL_len (a : MsgD) : (pmL a).length ≤ 1048576 := by
  unfold pmL; split
  · rename_i h; have := (faultW_zero h).2; rw [packW_len]; omega
  · simp


end Go.Proofs.YtdbpnibcblelbaaDoor

/- The contracts of blocks in the specification: l6Blocks, PackBlocks, l6Split, UnpackBlocks: code and bytes or blocks, at every argument. What was there stays. -/
namespace Go.Proofs.YtdbpnibcblelbaaDoor
open Go.ChangeShapes Go.WideShapes Go.ChangeAt Go.RowKit


theorem blksN_bound : ∀ (l : List BlkD), (∀ b ∈ l, b.length ≤ 120) → (blksN l).length ≤ 121 * l.length
  | [], _ => by simp [blksN]
  | a :: m, h => by
    rw [blksN_cons, List.length_append, blkW_len, List.length_cons]
    have h2 := h a List.mem_cons_self
    have h3 := blksN_bound m fun b hb => h b (List.mem_cons_of_mem _ hb)
    omega
theorem pbC_many {l : List BlkD} (h : ¬ l.length ≤ 8) : pbC l = 2 := by rw [pbC, if_neg (fun k => h k.1)]
theorem pbC_big {l : List BlkD} (h : okBl l = false) : pbC l = 2 := by rw [pbC, if_neg (fun k => by rw [h] at k; exact absurd k.2.1 (by decide))]
theorem pbC_long {l : List BlkD} (h : ¬ (blksN l).length ≤ 160) : pbC l = 2 := by rw [pbC, if_neg (fun k => h k.2.2)]
theorem pbL_none {l : List BlkD} (h : pbC l = 2) : pbL l = [] := by rw [pbL, if_neg (by rw [h]; decide)]



theorem ubC_many {data : List UInt8} (h : ¬ data.length ≤ 160) : ubC data = 2 ∧ ubL data = [] := by rw [ubC, ubL, if_neg h, if_neg h]; exact ⟨rfl, rfl⟩
theorem ubC_none {data : List UInt8} (h : data.length ≤ 160) (h2 : splitR data 0 [] = none) : ubC data = 5 ∧ ubL data = [] := by rw [ubC, ubL, if_pos h, if_pos h, h2]; exact ⟨rfl, rfl⟩
theorem ubC_some {data : List UInt8} {r : List BlkD} (h : data.length ≤ 160) (h2 : splitR data 0 [] = some r) : ubC data = 0 ∧ ubL data = r := by rw [ubC, ubL, if_pos h, if_pos h, h2]; exact ⟨rfl, rfl⟩

theorem blksN_sum : ∀ (l : List BlkD), sumB l ≤ (blksN l).length
  | [] => by simp [sumB]
  | a :: l => by
    have h := blksN_sum l
    rw [blksN_cons, List.length_append, blkW_len]
    simp only [sumB, List.map_cons, List.sum_cons] at h ⊢
    omega
theorem ubL_sum (data : List UInt8) : sumB (ubL data) ≤ 1048576 := by
  unfold ubL
  split
  · rename_i h
    cases hs : splitR data 0 [] with
    | none => simp [sumB]
    | some r =>
      have h2 := (pack_split data data.length 0 [] r (by omega) (Nat.zero_le _) (by simp [blksN]) (by decide) (fun b hb => by cases hb) hs).1
      have h3 := blksN_sum r
      rw [h2] at h3
      simp only [Option.getD_some]
      omega
  · simp [sumB]
end Go.Proofs.YtdbpnibcblelbaaDoor

/- The contracts of what reads messages in the specification: l6Unpack, UnpackMsgs (code, place, messages, each of which owns its memory), SameMsgs. What was there stays. -/
namespace Go.Proofs.YtdbpnibcblelbaaDoor
open Go.ChangeShapes Go.WideShapes Go.ChangeAt Go.RowKit


theorem packAll_bulk : ∀ (l : List MsgD), bulkM l ≤ (packAll l).length
  | [] => by simp [bulkM]
  | a :: l => by
    have h := packAll_bulk l
    rw [packAll_cons, List.length_append, packW_len]
    simp only [bulkM, List.map_cons, List.sum_cons, List.length_cons] at h ⊢
    omega

def sameM (a b : List MsgD) : Bool := decide (a = b)
theorem sameM_at {a b : List MsgD} {k : Nat} {x y : MsgD} (hx : a[k]? = some x) (hy : b[k]? = some y) (h : x ≠ y) : sameM a b = false := by
  simp only [sameM, decide_eq_false_iff_not]
  intro e
  subst e
  rw [hx] at hy
  cases hy
  exact h rfl
end Go.Proofs.YtdbpnibcblelbaaDoor

