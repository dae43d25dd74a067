/- Chapter 3 as plain functions on bytes, with no program in it: a key's block (blockK), the mac (macN), what is extracted (extractN), what is expanded (expandN), a label's bytes (labelB); their lengths. No conditions but those in each line. -/
import Derived.Test.YtflhoefocjmihaaSha
namespace Go.Proofs.Ytflhoefocjmihaa
open Go.RowKit

def blockK (key : List UInt8) (x : UInt8) : List UInt8 := (key ++ zs (64 - key.length)).map (· ^^^ x)
theorem blockK_len {key : List UInt8} (x : UInt8) (h : key.length ≤ 64) : (blockK key x).length = 64 := by simp [blockK, zs_len]; omega
def macN (key data : List UInt8) : List UInt8 := digestN (blockK key 92 ++ digestN (blockK key 54 ++ data))
theorem macN_len (key data : List UInt8) : (macN key data).length = 32 := digestN_len _
/-- A key with zeros behind it is the same key. -/
theorem blockK_zeros (key : List UInt8) (n : Nat) (x : UInt8) (h : key.length + n ≤ 64) : blockK (key ++ zs n) x = blockK key x := by
  unfold blockK
  rw [List.length_append, zs_len, List.append_assoc]
  congr 2
  rw [show zs n ++ zs (64 - (key.length + n)) = zs (64 - key.length) by unfold zs; rw [List.replicate_append_replicate]; congr 1; omega]
theorem macN_zeros (key data : List UInt8) (n : Nat) (h : key.length + n ≤ 64) : macN (key ++ zs n) data = macN key data := by
  unfold macN
  rw [blockK_zeros key n _ h, blockK_zeros key n _ h]
def saltN (salt : List UInt8) : List UInt8 := if salt.length = 0 then zs 32 else salt
theorem saltN_len (salt : List UInt8) (h : salt.length ≤ 64) : (saltN salt).length ≤ 64 := by
  unfold saltN; split
  · rw [zs_len]; decide
  · exact h
def extractN (salt data : List UInt8) : List UInt8 := macN (saltN salt) data
theorem extractN_len (salt data : List UInt8) : (extractN salt data).length = 32 := macN_len _ _
theorem extractN_eq (salt data : List UInt8) : extractN salt data = macN salt data := by
  unfold extractN saltN
  split
  · rename_i h
    have e : salt = [] := List.eq_nil_of_length_eq_zero h
    subst e
    exact macN_zeros [] data 32 (by decide)
  · rfl

/-- t i, and all up to it. -/
def lastN (key info : List UInt8) : Nat → List UInt8
  | 0 => []
  | i + 1 => macN key (lastN key info i ++ info ++ [UInt8.ofNat (i + 1)])
def outN (key info : List UInt8) : Nat → List UInt8
  | 0 => []
  | i + 1 => outN key info i ++ lastN key info (i + 1)
theorem lastN_len (key info : List UInt8) (i : Nat) : (lastN key info i).length ≤ 32 := by
  cases i with
  | zero => simp [lastN]
  | succ i => exact Nat.le_of_eq (macN_len _ _)
theorem lastN_succ (key info : List UInt8) (i : Nat) : lastN key info (i + 1) = macN key (lastN key info i ++ info ++ [UInt8.ofNat (i + 1)]) := rfl
theorem outN_len (key info : List UInt8) (i : Nat) : (outN key info i).length = 32 * i := by
  induction i with
  | zero => rfl
  | succ i ih => rw [outN, List.length_append, ih, lastN_succ, macN_len]; omega
def expandN (key info : List UInt8) (n : Nat) : List UInt8 := (outN key info ((n + 31) / 32)).take n
theorem expandN_len (key info : List UInt8) (n : Nat) : (expandN key info n).length = n := by
  rw [expandN, List.length_take, outN_len]; omega
theorem outN_take (key info : List UInt8) (i j : Nat) (h : i ≤ j) : (outN key info j).take (32 * i) = outN key info i := by
  induction j with
  | zero => have : i = 0 := by omega
            subst this; rfl
  | succ j ih =>
    by_cases e : i = j + 1
    · subst e; rw [List.take_of_length_le (by rw [outN_len]; exact Nat.le_refl _)]
    · rw [outN, List.take_append_of_le_length (by rw [outN_len]; omega)]; exact ih (by omega)
/-- A shorter key is the beginning of a longer one. -/
theorem expandN_take (key info : List UInt8) (m n : Nat) (h : m ≤ n) : (expandN key info n).take m = expandN key info m := by
  unfold expandN
  rw [List.take_take, Nat.min_eq_left h, ← outN_take key info ((m + 31) / 32) ((n + 31) / 32) (by omega), List.take_take, Nat.min_eq_left (by omega)]

/-- A label: 1 to 40 bytes of 32 to 126. -/
def labelOk (l : List UInt8) : Bool := l.all (fun b => decide (32 ≤ b.toNat) && decide (b.toNat ≤ 126)) && decide (1 ≤ l.length) && decide (l.length ≤ 40)
def tls13 : List UInt8 := [116, 108, 115, 49, 51, 32]
def labelB (l ctx : List UInt8) (n : Nat) : List UInt8 := putB n 2 ++ UInt8.ofNat (6 + l.length) :: (tls13 ++ l ++ UInt8.ofNat ctx.length :: ctx)
theorem labelB_len (l ctx : List UInt8) (n : Nat) : (labelB l ctx n).length = l.length + ctx.length + 10 := by simp [labelB, putB_len, tls13]; omega
end Go.Proofs.Ytflhoefocjmihaa

