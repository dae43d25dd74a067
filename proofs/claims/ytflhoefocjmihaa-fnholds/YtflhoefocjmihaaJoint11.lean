/- The contract of bytes.Clone: a copy in a row of its own. What was there stays. -/
import Derived.Test.YtflhoefocjmihaaJoinI
import Derived.Handy
import Derived.Test.YtflhoefocjmihaaJoint9
import Derived.Test.YtflhoefocjmihaaPad
import Derived.Great.BuildSlice
namespace Go.Proofs.Ytflhoefocjmihaa
open Go.ChangeShapes Go.WideShapes Go.ChangeAt Go.RowKit

set_option maxRecDepth 4000 in
set_option maxHeartbeats 1000000 in
theorem bytesClone_c (p : Option Addr) (q : Nat) (bs : List UInt8) (w : World) (hr : Rd w p q bs) (hl : bs.length ≤ 1000000) :
    Calls Try.prog 36 #[.slice p bs.length q] w fun e w' => ∃ u, e = .returned u ∧ Own w' w.heap.size u bs ∧ Below w.heap.size w w' := by
  cases p with
  | none =>
    have hq := hr.2.2.1 rfl
    have hb : bs = [] := List.eq_nil_of_length_eq_zero (by have := hr.1; omega)
    subst hb hq
    have hnil : ∀ w, (Go.binOp .eql 22 (.slice none 0 0) (.slice none 0 0)).run Try.prog w = .ok (.bool true) w := by intro w; kernel_rfl
    go_enter Try.func36, Try.ntmps36
    go_wp2
    go_ret
    exact ⟨_, rfl, Own_nil _ _, Below.refl _ _⟩
  | some ad =>
    have hnil : ∀ w, (Go.binOp .eql 22 (.slice (some ad) bs.length q) (.slice none 0 0)).run Try.prog w = .ok (.bool false) w := by intro w; kernel_rfl
    have hr2 := hr.keep (alloc_below w (Obj.cells #[] 5))
    have ho := none_own8 w w.heap.size (Nat.le_refl _)
    go_enter Try.func36, Try.ntmps36
    go_wp2_with (at_builtin; refine wpList_append_rd rfl (.tmp 5) (.tmp 6) rfl w.heap.size _ [] rfl ho (some ad) q bs rfl hr2 (by simp; omega) (by simp) ?_; intro v' w' ho' hg')
    have RB := (alloc_below w (Obj.cells #[] 5)).grown hg' (by simp) (fun k hk => ho.ge k hk)
    go_ret
    exact ⟨_, rfl, ho', RB⟩
end Go.Proofs.Ytflhoefocjmihaa

/- The contracts of the digest in the specification: spec.l2Keys, spec.l2Start, spec.l2Digest: the answer is digestN, in a row of its own. For at most 600 bytes. -/
namespace Go.Proofs.Ytflhoefocjmihaa
open Go.ChangeShapes Go.WideShapes Go.ChangeAt Go.RowKit

/-- A whole array read in a region that draws its order: the same cells in every world of the class. -/
theorem wpQuiet_load_row {P : Program} {ops : Array Oper} {C : World → Prop} {Q : Act → Prop} {a : Act} {o : Oper} {rest : List Oper} (hgd : o.guard = none) (ty : TypeId) (x : Operand) (ho : o.op = .load ty x)
    (g : Nat) (hx : a.eval x = .pointer (some ⟨g, 0, none⟩)) (t : TypeId) (cs : Array Value) (fr : Nat × Nat) (d : TypeDesc) (hg : ∀ w, C w → w.heap[g]? = some (.cells cs t fr))
    (hu : P.underlying ty = some d) (hd : (match d with | .struct _ | .array _ _ => true | _ => false) = true) (hi : (P.info? ty).map (·.size) = some cs.size)
    (h : wpQuiet P ops C Q rest (a.put o.dst (.agg cs))) : wpQuiet P ops C Q (o :: rest) a := by
  unfold wpQuiet
  rw [if_pos (by simp [Region.wanted, hgd])]
  refine ⟨.agg cs, fun w hw => ?_, h⟩
  unfold Oper.quietAt execOp
  simp only [ho, hx, Instr.loadAt, Instr.sureAddr, Sem.run_bind, Sem.run_pure, Result.andThen_ok, run_loadVar_row w g t ty cs fr d (hg w hw) hu hd hi]
  exact ⟨rfl, rfl⟩

/-- wp_region_tail, what the last operation is asked behind a variable. -/
theorem wp_region_tail_z {P : Program} {ops : Array Oper} {C : World → Prop} {Q : Exit → Act → World → Prop} {a : Act} {w : World} {id : Nat} (n : Nat) {o : Oper} (hn : ops.size = n + 1) (ho : ops[n]? = some o) (hgd : o.guard = none)
    (hm : P.follows .mixedOrders = true) (hs : Region.noSelect ops = true) (hB : lexT .any ops n 0 (Array.replicate ops.size false) = true) (hw : waitsAll .any ops n = true) (hC : C { w with drawn := w.drawn + 1 })
    (h : ∀ Z : Act → Prop, (∀ a', (∀ w', C w' → ∀ K : Act → World → Prop, (∀ a'' w'', Q .normal a'' w'' → K a'' w'') → o.wp P a' w' K Q) → Z a') → wpQuiet P ops C Z (ops.toList.take n) a) : (Code.region id ops true).wp P Q a w :=
  wp_region_tail n hn ho hgd hm hs hB hw hC (h _ (fun _ h => h))

def keysI : List Int := keysN.map Int.ofNat
def keysV : List Value := keysI.map (Value.int .i64)
theorem keysV_at {i : Nat} (h : i < 64) : keysV[i]? = some (.int .i64 (keysN.getD i 0 : Nat)) := by
  have hl : i < keysN.length := h
  simp [keysV, keysI, hl]
theorem keysV_len : keysV.length = 64 := rfl


theorem sizes_i (s t : S8) : (s.list.map i64v).toArray.size = t.i64.size := rfl
theorem cells_i (s : S8) : s.i64.all (·.oneCell') = true := by simp [S8.i64]; exact ⟨rfl, rfl, rfl, rfl, rfl, rfl, rfl, rfl⟩
theorem blocksN_succ (bs : List UInt8) (k : Nat) : blocksN bs (k + 1) = addS (blocksN bs k) (roundsN (spreadN ((bs.drop (64 * k)).take 64)) (blocksN bs k) 64) := rfl
theorem roundsN_succ (ws : List Nat) (s : S8) (k : Nat) : roundsN ws s (k + 1) = roundN (roundsN ws s k) (ws.getD k 0) (keysN.getD k 0) := rfl
theorem S8.i64_eq (s : S8) : s.i64 = (s.list.map i64v).toArray := rfl


/-- What a loop that adds t to s word by word has laid behind j rounds. -/
def addV (f : Nat → Value) (s t : S8) (j : Nat) : List Value := (List.range 8).map fun i => f (if i < j then (s.list.getD i 0 + t.list.getD i 0) % 4294967296 else s.list.getD i 0)
theorem addV_zero (f : Nat → Value) (s t : S8) : addV f s t 0 = s.list.map f := rfl
theorem addV_all (f : Nat → Value) (s t : S8) : addV f s t 8 = (addS s t).list.map f := rfl
theorem lt8 {j : Nat} (h : j < 8) : j = 0 ∨ j = 1 ∨ j = 2 ∨ j = 3 ∨ j = 4 ∨ j = 5 ∨ j = 6 ∨ j = 7 := by omega
theorem addV_set (f : Nat → Value) (s t : S8) {j : Nat} (h : j < 8) : (addV f s t j).set j (f ((s.list.getD j 0 + t.list.getD j 0) % 4294967296)) = addV f s t (j + 1) := by
  rcases lt8 h with rfl | rfl | rfl | rfl | rfl | rfl | rfl | rfl <;> rfl
theorem addV_at (f : Nat → Value) (s t : S8) {j : Nat} (h : j < 8) : (addV f s t j)[j]? = some (f (s.list.getD j 0)) := by
  rcases lt8 h with rfl | rfl | rfl | rfl | rfl | rfl | rfl | rfl <;> rfl
theorem listV_at (f : Nat → Value) (s : S8) {j : Nat} (h : j < 8) : (s.list.map f)[j]? = some (f (s.list.getD j 0)) := by
  rcases lt8 h with rfl | rfl | rfl | rfl | rfl | rfl | rfl | rfl <;> rfl

/-- The bytes of the first words. -/
def takeB (xs : List Nat) (j : Nat) : List UInt8 := (xs.take j).flatMap (fun x => putB x 4)
theorem takeB_zero (xs : List Nat) : takeB xs 0 = [] := rfl
theorem takeB_len (s : S8) {j : Nat} (h : j ≤ 8) : (takeB s.list j).length = 4 * j := by
  rcases (show j < 8 ∨ j = 8 by omega) with h | rfl
  · rcases lt8 h with rfl | rfl | rfl | rfl | rfl | rfl | rfl | rfl <;> simp [takeB, S8.list, putB_len]
  · simp [takeB, S8.list, putB_len]
theorem takeB_succ (s : S8) {j : Nat} (h : j < 8) : takeB s.list j ++ putB (s.list.getD j 0) 4 = takeB s.list (j + 1) := by
  rcases lt8 h with rfl | rfl | rfl | rfl | rfl | rfl | rfl | rfl <;> simp [takeB, S8.list]
theorem takeB_all (s : S8) : takeB s.list 8 = stateB s := by simp [takeB, stateB, S8.list]
theorem padN_len_n (bs : List UInt8) : (padN bs).length = 64 * ((bs.length + 72) / 64) := by rw [padN_len64]; omega

end Go.Proofs.Ytflhoefocjmihaa

