/- Chapter 3 as plain functions on bytes, with no program in it: a key's block (blockK), the mac (macN), what is extracted (extractN), what is expanded (expandN), a label's bytes (labelB); their lengths. No conditions but those in each line. -/
import Derived.Test.YtiabacnmmojfjaaJoint2
import Derived.Test.YtiabacnmmojfjaaRows
import Derived.Test.YtiabacnmmojfjaaMath
import Derived.ProofKit
import Derived.OpenShut
import Derived.BigQuiet
import Derived.Test.YtiabacnmmojfjaaBytes
import Derived.Deep.QuietTactic
import Derived.Deep.RegionWith
namespace Go.Proofs.Ytiabacnmmojfjaa
open Go.RowKit

def blockK (key : List UInt8) (x : UInt8) : List UInt8 := (key ++ zs (64 - key.length)).map (· ^^^ x)
theorem blockK_len {key : List UInt8} (x : UInt8) (h : key.length ≤ 64) : (blockK key x).length = 64 := by simp [blockK, zs_len]; omega
def macN (key data : List UInt8) : List UInt8 := digestN (blockK key 92 ++ digestN (blockK key 54 ++ data))
theorem macN_len (key data : List UInt8) : (macN key data).length = 32 := digestN_len _
/-- A key with zeros behind it is the same key. -/
theorem blockK_zeros (key : List UInt8) (n : Nat) (x : UInt8) (h : key.length + n ≤ 64) : blockK (key ++ zs n) x = blockK key x := by
  unfold blockK
  rw [List.length_append, zs_len, List.append_assoc]
  congr 2
  rw [show zs n ++ zs (64 - (key.length + n)) = zs (64 - key.length) by unfold zs; rw [List.replicate_append_replicate]; congr 1; omega]
theorem macN_zeros (key data : List UInt8) (n : Nat) (h : key.length + n ≤ 64) : macN (key ++ zs n) data = macN key data := by
  unfold macN
  rw [blockK_zeros key n _ h, blockK_zeros key n _ h]
def saltN (salt : List UInt8) : List UInt8 := if salt.length = 0 then zs 32 else salt
theorem saltN_len (salt : List UInt8) (h : salt.length ≤ 64) : (saltN salt).length ≤ 64 := by
  unfold saltN; split
  · rw [zs_len]; decide
  · exact h
def extractN (salt data : List UInt8) : List UInt8 := macN (saltN salt) data
theorem extractN_len (salt data : List UInt8) : (extractN salt data).length = 32 := macN_len _ _
theorem extractN_eq (salt data : List UInt8) : extractN salt data = macN salt data := by
  unfold extractN saltN
  split
  · rename_i h
    have e : salt = [] := List.eq_nil_of_length_eq_zero h
    subst e
    exact macN_zeros [] data 32 (by decide)
  · rfl

/-- t i, and all up to it. -/
def lastN (key info : List UInt8) : Nat → List UInt8
  | 0 => []
  | i + 1 => macN key (lastN key info i ++ info ++ [UInt8.ofNat (i + 1)])
def outN (key info : List UInt8) : Nat → List UInt8
  | 0 => []
  | i + 1 => outN key info i ++ lastN key info (i + 1)
theorem lastN_len (key info : List UInt8) (i : Nat) : (lastN key info i).length ≤ 32 := by
  cases i with
  | zero => simp [lastN]
  | succ i => exact Nat.le_of_eq (macN_len _ _)
theorem lastN_succ (key info : List UInt8) (i : Nat) : lastN key info (i + 1) = macN key (lastN key info i ++ info ++ [UInt8.ofNat (i + 1)]) := rfl
theorem outN_len (key info : List UInt8) (i : Nat) : (outN key info i).length = 32 * i := by
  induction i with
  | zero => rfl
  | succ i ih => rw [outN, List.length_append, ih, lastN_succ, macN_len]; omega
def expandN (key info : List UInt8) (n : Nat) : List UInt8 := (outN key info ((n + 31) / 32)).take n
theorem expandN_len (key info : List UInt8) (n : Nat) : (expandN key info n).length = n := by
  rw [expandN, List.length_take, outN_len]; omega
theorem outN_take (key info : List UInt8) (i j : Nat) (h : i ≤ j) : (outN key info j).take (32 * i) = outN key info i := by
  induction j with
  | zero => have : i = 0 := by omega
            subst this; rfl
  | succ j ih =>
    by_cases e : i = j + 1
    · subst e; rw [List.take_of_length_le (by rw [outN_len]; exact Nat.le_refl _)]
    · rw [outN, List.take_append_of_le_length (by rw [outN_len]; omega)]; exact ih (by omega)
/-- A shorter key is the beginning of a longer one. -/
theorem expandN_take (key info : List UInt8) (m n : Nat) (h : m ≤ n) : (expandN key info n).take m = expandN key info m := by
  unfold expandN
  rw [List.take_take, Nat.min_eq_left h, ← outN_take key info ((m + 31) / 32) ((n + 31) / 32) (by omega), List.take_take, Nat.min_eq_left (by omega)]

/-- A label: 1 to 40 bytes of 32 to 126. -/
def labelOk (l : List UInt8) : Bool := l.all (fun b => decide (32 ≤ b.toNat) && decide (b.toNat ≤ 126)) && decide (1 ≤ l.length) && decide (l.length ≤ 40)
def tls13 : List UInt8 := [116, 108, 115, 49, 51, 32]
def labelB (l ctx : List UInt8) (n : Nat) : List UInt8 := putB n 2 ++ UInt8.ofNat (6 + l.length) :: (tls13 ++ l ++ UInt8.ofNat ctx.length :: ctx)
theorem labelB_len (l ctx : List UInt8) (n : Nat) : (labelB l ctx n).length = l.length + ctx.length + 10 := by simp [labelB, putB_len, tls13]; omega
end Go.Proofs.Ytiabacnmmojfjaa

/- The contracts of the tests of a word and of a range: spec.l1In, spec.l1Word, impl.isWord answer the Bool inB of their arguments and leave the world as it is. -/
namespace Go.Proofs.Ytiabacnmmojfjaa
open Go.ChangeShapes Go.WideShapes Go.ChangeAt Go.RowKit

set_option maxHeartbeats 400000 in
theorem l1In_c (v lo hi : Int) (w : World) :
    Calls Try.prog 53 #[.int .i64 v, .int .i64 lo, .int .i64 hi] w fun e w' => e = .returned (.bool (inB v lo hi)) ∧ w' = w := by
  by_cases h1 : lo ≤ v
  · by_cases h2 : v ≤ hi
    · go_enter Try.func53, Try.ntmps53
      go_wp2
      go_ret
      exact ⟨by rw [inB_true h1 h2]; rfl, rfl⟩
    · go_enter Try.func53, Try.ntmps53
      go_wp2
      go_ret
      exact ⟨by rw [inB_false (by omega)]; rfl, rfl⟩
  · go_enter Try.func53, Try.ntmps53
    go_wp2
    go_ret
    exact ⟨by rw [inB_false (by omega)]; rfl, rfl⟩



end Go.Proofs.Ytiabacnmmojfjaa

/- The contracts of TurnWord and of what it calls, in the specification and in the program: both answer turnCode and turnVal, at every argument. -/
namespace Go.Proofs.Ytiabacnmmojfjaa
open Go.ChangeShapes Go.WideShapes Go.ChangeAt Go.RowKit

def turnCode (v n : Int) : Int := if inB v 0 4294967295 && inB n 0 31 then 0 else 3
def turnVal (v n : Int) : Int := if inB v 0 4294967295 && inB n 0 31 then (rotN v.toNat n.toNat : Nat) else 0
theorem turnCode_ok {a b : Int} (ha : inB a 0 4294967295 = true) (hb : inB b 0 31 = true) : turnCode a b = 0 := by simp [turnCode, ha, hb]
theorem turnVal_ok {a b : Int} (ha : inB a 0 4294967295 = true) (hb : inB b 0 31 = true) : turnVal a b = (rotN a.toNat b.toNat : Nat) := by simp [turnVal, ha, hb]
theorem turnCode_no {a b : Int} (h : inB a 0 4294967295 = false ∨ inB b 0 31 = false) : turnCode a b = 3 := by rcases h with h | h <;> simp [turnCode, h]
theorem turnVal_no {a b : Int} (h : inB a 0 4294967295 = false ∨ inB b 0 31 = false) : turnVal a b = 0 := by rcases h with h | h <;> simp [turnVal, h]
theorem i64_of {a b : Int} (h : a = b) : Value.int .i64 a = .int .i64 b := by rw [h]
theorem ret_i64 {a b : Int} (h : a = b) : Ending.returned (Value.int .i64 a) = .returned (.int .i64 b) := by rw [h]
theorem ret_u32 {a b : Int} (h : a = b) : Ending.returned (Value.int .u32 a) = .returned (.int .u32 b) := by rw [h]





end Go.Proofs.Ytiabacnmmojfjaa

/- A region that draws its order, walked once in the order of the text, where all worlds that may come up hold the same cells and leave what lay before, and every call gives one value and leaves what it found. No program in it. -/
namespace Go.Proofs.Ytiabacnmmojfjaa
open Go Go.RowKit

/-- A world in which all that lay in V is left. -/
structure HW (V : World) where
  w : World
  h : Below V.heap.size V w

theorem HW.at {V : World} {p : Addr} {v : Value} (h : V.cell? p = some v) : ∀ s : HW V, s.w.cell? p = some v := fun s => cell_keep h s.h
theorem HW.out {V w : World} (h : ∃ s : HW V, w = s.w) : Below V.heap.size V w := by
  obtain ⟨s, rfl⟩ := h
  exact s.h
theorem HW.some (V : World) : Nonempty (HW V) := ⟨⟨V, Below.refl _ _⟩⟩

theorem HW.down {V w' : World} {p : Addr} {v : Value} (h : ∀ s : HW V, s.w.cell? p = Option.some v) (hb : Below V.heap.size V w') : ∀ s : HW w', s.w.cell? p = Option.some v := HW.at (h ⟨w', hb⟩)
theorem wp_region_class {P : Program} {id : Nat} {Q : Exit → Act → World → Prop} {a : Act} {V : World} {l : List Oper}
    (hm : P.follows .mixedOrders = true) (hB : Region.lexB .any l.toArray = true)
    (h : wpQuiet P l.toArray (fun w' => ∃ s : HW V, w' = s.w) (fun a' => ∀ w', (∃ s : HW V, w' = s.w) → Q .normal a' w') l a) : (Code.region id l.toArray true).wp P Q a V :=
  wp_region_quiet (C := fun w' => ∃ s : HW V, w' = s.w) hm hB ⟨⟨V.drew, (Below.refl _ _).drew⟩, rfl⟩ (by simpa using h)

/-- A call that leaves what was there. -/
theorem Calls.stay {P : Program} {V : World} {f : FuncId} {args : Array Value} {v : Value} {s : HW V}
    (h : Calls P f args s.w fun e w' => e = .returned v ∧ Below s.w.heap.size s.w w') : Calls P f args s.w fun e w'' => e = .returned v ∧ ∃ s' : HW V, w'' = s'.w :=
  h.mono fun _ w'' ⟨he, hb⟩ => ⟨he, ⟨w'', Below.step s.h hb⟩, rfl⟩
theorem Calls.stay_same {P : Program} {V : World} {f : FuncId} {args : Array Value} {v : Value} {s : HW V}
    (h : Calls P f args s.w fun e w' => e = .returned v ∧ w' = s.w) : Calls P f args s.w fun e w'' => e = .returned v ∧ ∃ s' : HW V, w'' = s'.w :=
  h.mono fun _ _ ⟨he, hb⟩ => ⟨he, s, hb⟩

/-- A quiet region behind another one: the draws add up. -/
theorem wp_region_again {P : Program} {id : Nat} {Q : Exit → Act → World → Prop} {a : Act} {V : World} {k : Nat} {l : List Oper}
    (hm : P.follows .mixedOrders = true) (hB : Region.lexB .any l.toArray = true)
    (h : wpQuiet P l.toArray (fun w' => ∃ n, w' = V.drewN n) (fun a' => ∀ w', (∃ n, w' = V.drewN n) → Q .normal a' w') l a) : (Code.region id l.toArray true).wp P Q a (V.drewN k) :=
  wp_region_quiet (C := fun w' => ∃ n, w' = V.drewN n) hm hB ⟨k + 1, rfl⟩ (by simpa using h)

end Go.Proofs.Ytiabacnmmojfjaa

/- The contracts of a round: spec.l2Round and impl.mixed (and what it calls) both answer roundN of their arguments; what was there stays. For words below 2^32. -/
namespace Go.Proofs.Ytiabacnmmojfjaa
open Go.ChangeShapes Go.WideShapes Go.ChangeAt Go.RowKit

theorem i64_xor32 {a b : Nat} (ha : a < 4294967296) (hb : b < 4294967296) : bits .xor .i64 (a : Int) (b : Int) = ((a ^^^ b : Nat) : Int) := i64_xor_nat a b (by omega) (by omega)
theorem i64_and32 {a b : Nat} (ha : a < 4294967296) (hb : b < 4294967296) : bits .and .i64 (a : Int) (b : Int) = ((a &&& b : Nat) : Int) := i64_and_nat a b (by omega) (by omega)




theorem not32 (e : Nat) (h : e < 4294967296) : bits .xor .u32 IntKind.u32.max (e : Int) = ((4294967295 - e : Nat) : Int) := by
  have h1 : IntKind.u32.max = ((4294967295 : Nat) : Int) := by decide
  rw [h1, u32_xor_nat _ _ (by decide) h]
  congr 1
  have h2 : (BitVec.allOnes 32 ^^^ BitVec.ofNat 32 e).toNat = 4294967295 ^^^ e := by
    rw [BitVec.toNat_xor, BitVec.toNat_allOnes, BitVec.toNat_ofNat, Nat.mod_eq_of_lt (by omega)]
  rw [← h2, BitVec.allOnes_xor, BitVec.toNat_not, BitVec.toNat_ofNat, Nat.mod_eq_of_lt (by omega)]


end Go.Proofs.Ytiabacnmmojfjaa

