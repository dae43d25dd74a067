/- A word turned to the right, as a number (rotN); what the specification and the program reckon is that number. For words below 2^32 and turns of 1 to 31. -/
import Derived.WalkKit
import Derived.Test.YtiabacnmmojfjabGreatDoorJoint1
import Derived.Test.YtiabacnmmojfjabGreatDoorJoint2
import Derived.Test.YtiabacnmmojfjabGreatDoorRows
import Derived.ProofKit
import Derived.OpenShut
import Derived.BigQuiet
namespace Go.Proofs.YtiabacnmmojfjabGreatDoor
open Go.RowKit

/-- A word turned to the right by n bits: as a number. -/
def rotN (v n : Nat) : Nat := v / 2 ^ n + v % 2 ^ n * 2 ^ (32 - n)

theorem pow_parts (n : Nat) (h : n ≤ 32) : 2 ^ n * 2 ^ (32 - n) = 4294967296 := by
  rw [← Nat.pow_add, show n + (32 - n) = 32 by omega]

theorem rotN_lt (v n : Nat) (hv : v < 4294967296) (hn : n ≤ 32) : rotN v n < 4294967296 := by
  have hp := pow_parts n hn
  have h1 : v / 2 ^ n < 2 ^ (32 - n) := by
    rw [Nat.div_lt_iff_lt_mul (Nat.two_pow_pos n), Nat.mul_comm, hp]; exact hv
  have h2 : v % 2 ^ n < 2 ^ n := Nat.mod_lt _ (Nat.two_pow_pos n)
  have h3 : (v % 2 ^ n + 1) * 2 ^ (32 - n) ≤ 2 ^ n * 2 ^ (32 - n) := Nat.mul_le_mul_right _ h2
  rw [hp, Nat.add_mul] at h3
  unfold rotN
  omega

theorem rotN_zero (v : Nat) : rotN v 0 = v := by simp [rotN, Nat.mod_one]

theorem rot_or (v n : Nat) (hv : v < 4294967296) (h1 : 1 ≤ n) (h2 : n ≤ 31) :
    bits .or .u32 ((v : Int) * 2 ^ (32 - n) % 4294967296) ((v : Int) / 2 ^ n) = (rotN v n : Nat) := by
  have hp := pow_parts n (by omega)
  have e1 : ((v : Int) * 2 ^ (32 - n) % 4294967296) = ((v % 2 ^ n * 2 ^ (32 - n) : Nat) : Int) := by
    rw [← Nat.mul_mod_mul_right (2 ^ (32 - n)) v (2 ^ n), hp, Int.natCast_emod, Int.natCast_mul, Int.natCast_pow]; rfl
  have e2 : ((v : Int) / 2 ^ n) = ((v / 2 ^ n : Nat) : Int) := by push_cast; rfl
  have a1 : v % 2 ^ n * 2 ^ (32 - n) < 4294967296 := by
    have := rotN_lt v n hv (by omega); unfold rotN at this; omega
  have a2 : v / 2 ^ n < 2 ^ (32 - n) := by
    rw [Nat.div_lt_iff_lt_mul (Nat.two_pow_pos n), Nat.mul_comm, hp]; exact hv
  have a3 : v / 2 ^ n < 4294967296 := Nat.lt_of_le_of_lt (Nat.div_le_self _ _) hv
  rw [e1, e2, u32_or_nat _ _ a1 a3, ← Nat.shiftLeft_eq, ← Nat.shiftLeft_add_eq_or_of_lt a2, Nat.shiftLeft_eq]
  unfold rotN
  rw [Nat.add_comm]

theorem and31 (n : Nat) (h : n ≤ 31) : bits .and .u64 (IntKind.u64.wrap (-(n : Int))) 31 = ((32 - n) % 32 : Nat) := by
  have : ∀ n : Fin 32, bits .and .u64 (IntKind.u64.wrap (-(n.val : Int))) 31 = ((32 - n.val) % 32 : Nat) := by decide
  exact this ⟨n, by omega⟩

theorem rot_spec (v n : Nat) (hv : v < 4294967296) (h1 : 1 ≤ n) (h2 : n ≤ 31) :
    wrap64 ((v : Int) / 2 ^ n + wrap64 ((v : Int) % wrap64 (2 ^ n) * 2 ^ (32 - n))) = (rotN v n : Nat) := by
  have hl := rotN_lt v n hv (by omega)
  have e0 : wrap64 (2 ^ n) = 2 ^ n := by
    have h3 : (2 : Nat) ^ n ≤ 2 ^ 31 := Nat.pow_le_pow_right (by decide) h2
    have h4 : ((2 ^ n : Nat) : Int) ≤ 2147483648 := by omega
    have h5 : (0 : Int) ≤ ((2 ^ n : Nat) : Int) := Int.natCast_nonneg _
    push_cast at h4 h5
    unfold wrap64; omega
  rw [e0]
  have e1 : ((v : Int) % 2 ^ n * 2 ^ (32 - n)) = ((v % 2 ^ n * 2 ^ (32 - n) : Nat) : Int) := by push_cast; rfl
  have e2 : ((v : Int) / 2 ^ n) = ((v / 2 ^ n : Nat) : Int) := by push_cast; rfl
  rw [e1, e2]
  unfold rotN at hl ⊢
  generalize v / 2 ^ n = A at *
  generalize v % 2 ^ n * 2 ^ (32 - n) = B at *
  clear e0 e1 e2
  unfold wrap64; omega
theorem wrap_ne (n : Nat) (h2 : n ≤ 31) : wrap64 (2 ^ n) ≠ 0 := by
    have h3 : (2 : Nat) ^ n ≤ 2 ^ 31 := Nat.pow_le_pow_right (by decide) h2
    have h4 : ((2 ^ n : Nat) : Int) ≤ 2147483648 := by omega
    have h5 : (0 : Int) < ((2 ^ n : Nat) : Int) := by have := Nat.two_pow_pos n; omega
    push_cast at h4 h5
    unfold wrap64; omega
/-- Turned on by what is left of 32, a word is itself. -/
theorem rotN_back (v n : Nat) (hv : v < 4294967296) (hn : n ≤ 31) : rotN (rotN v n) ((32 - n) % 32) = v := by
  by_cases h0 : n = 0
  · subst h0; rw [rotN_zero]; exact rotN_zero v
  · rw [Nat.mod_eq_of_lt (by omega)]
    have hp := pow_parts n (by omega)
    have a2 : v / 2 ^ n < 2 ^ (32 - n) := by
      rw [Nat.div_lt_iff_lt_mul (Nat.two_pow_pos n), Nat.mul_comm, hp]; exact hv
    have e : 32 - (32 - n) = n := by omega
    have hdm := Nat.div_add_mod v (2 ^ n)
    unfold rotN
    rw [e, Nat.add_mul_div_right _ _ (Nat.two_pow_pos (32 - n)), Nat.div_eq_of_lt a2, Nat.add_mul_mod_self_right, Nat.mod_eq_of_lt a2, Nat.mul_comm (v / 2 ^ n)]
    omega

end Go.Proofs.YtiabacnmmojfjabGreatDoor

/- Xor and and of words that stand in int64, as numbers. For numbers below 2^63. No program in it. -/
namespace Go.Proofs.YtiabacnmmojfjabGreatDoor
open Go.RowKit

theorem ofInt_i64 (a : Nat) (h : a < 9223372036854775808) : (BitVec.ofInt 64 (a : Int)).toNat = a := by
  rw [BitVec.toNat_ofInt]
  omega
theorem wrap_i64_nat (a : Nat) (h : a < 9223372036854775808) : IntKind.i64.wrap (a : Int) = a := by
  rw [IntKind.wrap_i64]
  omega
theorem i64_xor_nat (a b : Nat) (ha : a < 9223372036854775808) (hb : b < 9223372036854775808) : bits .xor .i64 (a : Int) (b : Int) = ((a ^^^ b : Nat) : Int) := by
  have hx : a ^^^ b < 2 ^ 63 := Nat.xor_lt_two_pow (by omega) (by omega)
  show IntKind.i64.wrap ((BitVec.ofInt 64 (a : Int) ^^^ BitVec.ofInt 64 (b : Int)).toNat : Int) = _
  rw [BitVec.toNat_xor, ofInt_i64 a ha, ofInt_i64 b hb, wrap_i64_nat _ (by omega)]
theorem i64_and_nat (a b : Nat) (ha : a < 9223372036854775808) (hb : b < 9223372036854775808) : bits .and .i64 (a : Int) (b : Int) = ((a &&& b : Nat) : Int) := by
  have hx : a &&& b < 2 ^ 63 := Nat.and_lt_two_pow _ (by omega)
  show IntKind.i64.wrap ((BitVec.ofInt 64 (a : Int) &&& BitVec.ofInt 64 (b : Int)).toNat : Int) = _
  rw [BitVec.toNat_and, ofInt_i64 a ha, ofInt_i64 b hb, wrap_i64_nat _ (by omega)]
end Go.Proofs.YtiabacnmmojfjabGreatDoor

/- Chapter 2 as plain functions on numbers and bytes, with no program in it: a round (roundN), the words of a block (spreadN), what is padded (padN), the digest (digestN); their bounds and lengths. No conditions but those in each line. -/
namespace Go.Proofs.YtiabacnmmojfjabGreatDoor
open Go.RowKit

/-- Eight words. -/
structure S8 where
  a : Nat
  b : Nat
  c : Nat
  d : Nat
  e : Nat
  f : Nat
  g : Nat
  h : Nat
def S8.list (s : S8) : List Nat := [s.a, s.b, s.c, s.d, s.e, s.f, s.g, s.h]
def S8.ok (s : S8) : Prop := s.a < 4294967296 ∧ s.b < 4294967296 ∧ s.c < 4294967296 ∧ s.d < 4294967296 ∧ s.e < 4294967296 ∧ s.f < 4294967296 ∧ s.g < 4294967296 ∧ s.h < 4294967296

def rot3 (x i j k : Nat) : Nat := rotN x i ^^^ rotN x j ^^^ rotN x k
def sh2 (x i j k : Nat) : Nat := rotN x i ^^^ rotN x j ^^^ (x / 2 ^ k)
def chN (e f g : Nat) : Nat := (e &&& f) ^^^ ((4294967295 - e) &&& g)
def majN (a b c : Nat) : Nat := (a &&& b) ^^^ (a &&& c) ^^^ (b &&& c)
def t1N (s : S8) (word key : Nat) : Nat := (s.h + rot3 s.e 6 11 25 + chN s.e s.f s.g + key + word) % 4294967296
def t2N (s : S8) : Nat := (rot3 s.a 2 13 22 + majN s.a s.b s.c) % 4294967296
def roundN (s : S8) (word key : Nat) : S8 :=
  ⟨(t1N s word key + t2N s) % 4294967296, s.a, s.b, s.c, (s.d + t1N s word key) % 4294967296, s.e, s.f, s.g⟩

theorem xor_lt32 {a b : Nat} (h : a < 4294967296) (k : b < 4294967296) : a ^^^ b < 4294967296 := Nat.xor_lt_two_pow (n := 32) h k
theorem and_lt32 {a b : Nat} (h : a < 4294967296) : a &&& b < 4294967296 := Nat.lt_of_le_of_lt Nat.and_le_left h
theorem rot3_lt {x i j k : Nat} (h : x < 4294967296) (hi : i ≤ 32) (hj : j ≤ 32) (hk : k ≤ 32) : rot3 x i j k < 4294967296 :=
  xor_lt32 (xor_lt32 (rotN_lt x i h hi) (rotN_lt x j h hj)) (rotN_lt x k h hk)
theorem sh2_lt {x i j k : Nat} (h : x < 4294967296) (hi : i ≤ 32) (hj : j ≤ 32) : sh2 x i j k < 4294967296 :=
  xor_lt32 (xor_lt32 (rotN_lt x i h hi) (rotN_lt x j h hj)) (Nat.lt_of_le_of_lt (Nat.div_le_self _ _) h)
theorem chN_lt {e f g : Nat} (h : e < 4294967296) : chN e f g < 4294967296 := xor_lt32 (and_lt32 h) (and_lt32 (by omega))
theorem majN_lt {a b c : Nat} (h : a < 4294967296) (k : b < 4294967296) : majN a b c < 4294967296 := xor_lt32 (xor_lt32 (and_lt32 h) (and_lt32 h)) (and_lt32 k)
theorem mod32_lt (x : Nat) : x % 4294967296 < 4294967296 := Nat.mod_lt _ (by decide)
theorem roundN_ok {s : S8} {word key : Nat} (h : s.ok) : (roundN s word key).ok :=
  ⟨mod32_lt _, h.1, h.2.1, h.2.2.1, mod32_lt _, h.2.2.2.2.1, h.2.2.2.2.2.1, h.2.2.2.2.2.2.1⟩

/-- The first sixteen words of a block are its bytes. -/
def word4 (bs : List UInt8) (i : Nat) : Nat := getB ((bs.drop (4 * i)).take 4)
theorem word4_lt (bs : List UInt8) (i : Nat) : word4 bs i < 4294967296 :=
  Nat.lt_of_lt_of_le (getB_lt _) (Nat.le_trans (Nat.pow_le_pow_right (by decide) (List.length_take_le 4 _)) (by decide))
def first16 (bs : List UInt8) : List Nat := (List.range 16).map (word4 bs)
def nextW (ws : List Nat) : Nat := (sh2 (ws.getD (ws.length - 2) 0) 17 19 10 + ws.getD (ws.length - 7) 0 + sh2 (ws.getD (ws.length - 15) 0) 7 18 3 + ws.getD (ws.length - 16) 0) % 4294967296
def moreW (ws : List Nat) : Nat → List Nat
  | 0 => ws
  | k + 1 => moreW ws k ++ [nextW (moreW ws k)]
def spreadN (bs : List UInt8) : List Nat := moreW (first16 bs) 48
theorem moreW_len (ws : List Nat) (k : Nat) : (moreW ws k).length = ws.length + k := by
  induction k with
  | zero => rfl
  | succ k ih => simp [moreW, ih]; omega
theorem first16_len (bs : List UInt8) : (first16 bs).length = 16 := by simp [first16]
theorem spreadN_len (bs : List UInt8) : (spreadN bs).length = 64 := by rw [spreadN, moreW_len, first16_len]
def Words (ws : List Nat) : Prop := ∀ x ∈ ws, x < 4294967296
theorem Words.getD {ws : List Nat} (h : Words ws) (i : Nat) : ws.getD i 0 < 4294967296 := by
  rw [List.getD_eq_getElem?_getD]
  cases e : ws[i]? with
  | none => simp
  | some x => simpa using h x (List.mem_of_getElem? e)
theorem Words.append {a b : List Nat} (h : Words a) (k : Words b) : Words (a ++ b) := fun x hx => (List.mem_append.1 hx).elim (h x) (k x)
theorem first16_ok (bs : List UInt8) : Words (first16 bs) := fun x hx => by
  obtain ⟨i, -, rfl⟩ := List.mem_map.1 hx; exact word4_lt bs i
theorem moreW_ok {ws : List Nat} (h : Words ws) (k : Nat) : Words (moreW ws k) := by
  induction k with
  | zero => exact h
  | succ k ih => exact ih.append (fun x hx => by rw [List.mem_singleton.1 hx]; exact mod32_lt _)
theorem spreadN_ok (bs : List UInt8) : Words (spreadN bs) := moreW_ok (first16_ok bs) 48

/-- What is padded. -/
def gap (n : Nat) : Nat := (119 - n % 64) % 64
def padN (bs : List UInt8) : List UInt8 := bs ++ 128 :: (zs (gap bs.length) ++ putB (8 * bs.length) 8)
theorem padN_len (bs : List UInt8) : (padN bs).length = bs.length + 9 + gap bs.length := by simp [padN, zs_len, putB_len]; omega
theorem padN_len64 (bs : List UInt8) : (padN bs).length = (bs.length + 72) / 64 * 64 := by rw [padN_len]; unfold gap; omega

def keysN : List Nat := [0x428a2f98, 0x71374491, 0xb5c0fbcf, 0xe9b5dba5, 0x3956c25b, 0x59f111f1, 0x923f82a4, 0xab1c5ed5, 0xd807aa98, 0x12835b01, 0x243185be, 0x550c7dc3, 0x72be5d74, 0x80deb1fe, 0x9bdc06a7, 0xc19bf174, 0xe49b69c1, 0xefbe4786, 0x0fc19dc6, 0x240ca1cc, 0x2de92c6f, 0x4a7484aa, 0x5cb0a9dc, 0x76f988da, 0x983e5152, 0xa831c66d, 0xb00327c8, 0xbf597fc7, 0xc6e00bf3, 0xd5a79147, 0x06ca6351, 0x14292967, 0x27b70a85, 0x2e1b2138, 0x4d2c6dfc, 0x53380d13, 0x650a7354, 0x766a0abb, 0x81c2c92e, 0x92722c85, 0xa2bfe8a1, 0xa81a664b, 0xc24b8b70, 0xc76c51a3, 0xd192e819, 0xd6990624, 0xf40e3585, 0x106aa070, 0x19a4c116, 0x1e376c08, 0x2748774c, 0x34b0bcb5, 0x391c0cb3, 0x4ed8aa4a, 0x5b9cca4f, 0x682e6ff3, 0x748f82ee, 0x78a5636f, 0x84c87814, 0x8cc70208, 0x90befffa, 0xa4506ceb, 0xbef9a3f7, 0xc67178f2]
def startN : S8 := ⟨0x6a09e667, 0xbb67ae85, 0x3c6ef372, 0xa54ff53a, 0x510e527f, 0x9b05688c, 0x1f83d9ab, 0x5be0cd19⟩
theorem startN_ok : startN.ok := by unfold S8.ok startN; decide
theorem keysN_ok : Words keysN := by unfold Words keysN; decide

/-- So many rounds over a block's words. -/
def roundsN (ws : List Nat) (s : S8) : Nat → S8
  | 0 => s
  | k + 1 => roundN (roundsN ws s k) (ws.getD k 0) (keysN.getD k 0)
theorem roundsN_ok (ws : List Nat) {s : S8} (h : s.ok) (k : Nat) : (roundsN ws s k).ok := by
  induction k with
  | zero => exact h
  | succ k ih => exact roundN_ok ih
def addS (s t : S8) : S8 := ⟨(s.a + t.a) % 4294967296, (s.b + t.b) % 4294967296, (s.c + t.c) % 4294967296, (s.d + t.d) % 4294967296, (s.e + t.e) % 4294967296, (s.f + t.f) % 4294967296, (s.g + t.g) % 4294967296, (s.h + t.h) % 4294967296⟩
theorem addS_ok (s t : S8) : (addS s t).ok := ⟨mod32_lt _, mod32_lt _, mod32_lt _, mod32_lt _, mod32_lt _, mod32_lt _, mod32_lt _, mod32_lt _⟩
def blockN (s : S8) (bs : List UInt8) : S8 := addS s (roundsN (spreadN bs) s 64)
def blocksN (bs : List UInt8) : Nat → S8
  | 0 => startN
  | k + 1 => blockN (blocksN bs k) ((bs.drop (64 * k)).take 64)
theorem blocksN_ok (bs : List UInt8) (k : Nat) : (blocksN bs k).ok := by
  cases k with
  | zero => exact startN_ok
  | succ k => exact addS_ok _ _
def stateB (s : S8) : List UInt8 := putB s.a 4 ++ putB s.b 4 ++ putB s.c 4 ++ putB s.d 4 ++ putB s.e 4 ++ putB s.f 4 ++ putB s.g 4 ++ putB s.h 4
theorem stateB_len (s : S8) : (stateB s).length = 32 := by simp [stateB, putB_len]
def digestN (bs : List UInt8) : List UInt8 := stateB (blocksN (padN bs) ((bs.length + 72) / 64))
theorem digestN_len (bs : List UInt8) : (digestN bs).length = 32 := stateB_len _

/-- Numbers in memory: words in int64, words in uint32. -/
def i64v (n : Nat) : Value := .int .i64 (n : Int)
def u32v (n : Nat) : Value := .int .u32 (n : Int)
def S8.i64 (s : S8) : Array Value := #[.int .i64 (s.a : Int), .int .i64 (s.b : Int), .int .i64 (s.c : Int), .int .i64 (s.d : Int), .int .i64 (s.e : Int), .int .i64 (s.f : Int), .int .i64 (s.g : Int), .int .i64 (s.h : Int)]
def S8.u32 (s : S8) : Array Value := #[.int .u32 (s.a : Int), .int .u32 (s.b : Int), .int .u32 (s.c : Int), .int .u32 (s.d : Int), .int .u32 (s.e : Int), .int .u32 (s.f : Int), .int .u32 (s.g : Int), .int .u32 (s.h : Int)]

end Go.Proofs.YtiabacnmmojfjabGreatDoor

/- Chapter 3 as plain functions on bytes, with no program in it: a key's block (blockK), the mac (macN), what is extracted (extractN), what is expanded (expandN), a label's bytes (labelB); their lengths. No conditions but those in each line. -/
namespace Go.Proofs.YtiabacnmmojfjabGreatDoor
open Go.RowKit

def blockK (key : List UInt8) (x : UInt8) : List UInt8 := (key ++ zs (64 - key.length)).map (· ^^^ x)
theorem blockK_len {key : List UInt8} (x : UInt8) (h : key.length ≤ 64) : (blockK key x).length = 64 := by simp [blockK, zs_len]; omega
def macN (key data : List UInt8) : List UInt8 := digestN (blockK key 92 ++ digestN (blockK key 54 ++ data))
theorem macN_len (key data : List UInt8) : (macN key data).length = 32 := digestN_len _
/-- A key with zeros behind it is the same key. -/
theorem blockK_zeros (key : List UInt8) (n : Nat) (x : UInt8) (h : key.length + n ≤ 64) : blockK (key ++ zs n) x = blockK key x := by
  unfold blockK
  rw [List.length_append, zs_len, List.append_assoc]
  congr 2
  rw [show zs n ++ zs (64 - (key.length + n)) = zs (64 - key.length) by unfold zs; rw [List.replicate_append_replicate]; congr 1; omega]
theorem macN_zeros (key data : List UInt8) (n : Nat) (h : key.length + n ≤ 64) : macN (key ++ zs n) data = macN key data := by
  unfold macN
  rw [blockK_zeros key n _ h, blockK_zeros key n _ h]
def saltN (salt : List UInt8) : List UInt8 := if salt.length = 0 then zs 32 else salt
theorem saltN_len (salt : List UInt8) (h : salt.length ≤ 64) : (saltN salt).length ≤ 64 := by
  unfold saltN; split
  · rw [zs_len]; decide
  · exact h
def extractN (salt data : List UInt8) : List UInt8 := macN (saltN salt) data
theorem extractN_len (salt data : List UInt8) : (extractN salt data).length = 32 := macN_len _ _
theorem extractN_eq (salt data : List UInt8) : extractN salt data = macN salt data := by
  unfold extractN saltN
  split
  · rename_i h
    have e : salt = [] := List.eq_nil_of_length_eq_zero h
    subst e
    exact macN_zeros [] data 32 (by decide)
  · rfl

/-- t i, and all up to it. -/
def lastN (key info : List UInt8) : Nat → List UInt8
  | 0 => []
  | i + 1 => macN key (lastN key info i ++ info ++ [UInt8.ofNat (i + 1)])
def outN (key info : List UInt8) : Nat → List UInt8
  | 0 => []
  | i + 1 => outN key info i ++ lastN key info (i + 1)
theorem lastN_len (key info : List UInt8) (i : Nat) : (lastN key info i).length ≤ 32 := by
  cases i with
  | zero => simp [lastN]
  | succ i => exact Nat.le_of_eq (macN_len _ _)
theorem lastN_succ (key info : List UInt8) (i : Nat) : lastN key info (i + 1) = macN key (lastN key info i ++ info ++ [UInt8.ofNat (i + 1)]) := rfl
theorem outN_len (key info : List UInt8) (i : Nat) : (outN key info i).length = 32 * i := by
  induction i with
  | zero => rfl
  | succ i ih => rw [outN, List.length_append, ih, lastN_succ, macN_len]; omega
def expandN (key info : List UInt8) (n : Nat) : List UInt8 := (outN key info ((n + 31) / 32)).take n
theorem expandN_len (key info : List UInt8) (n : Nat) : (expandN key info n).length = n := by
  rw [expandN, List.length_take, outN_len]; omega
theorem outN_take (key info : List UInt8) (i j : Nat) (h : i ≤ j) : (outN key info j).take (32 * i) = outN key info i := by
  induction j with
  | zero => have : i = 0 := by omega
            subst this; rfl
  | succ j ih =>
    by_cases e : i = j + 1
    · subst e; rw [List.take_of_length_le (by rw [outN_len]; exact Nat.le_refl _)]
    · rw [outN, List.take_append_of_le_length (by rw [outN_len]; omega)]; exact ih (by omega)
/-- A shorter key is the beginning of a longer one. -/
theorem expandN_take (key info : List UInt8) (m n : Nat) (h : m ≤ n) : (expandN key info n).take m = expandN key info m := by
  unfold expandN
  rw [List.take_take, Nat.min_eq_left h, ← outN_take key info ((m + 31) / 32) ((n + 31) / 32) (by omega), List.take_take, Nat.min_eq_left (by omega)]

/-- A label: 1 to 40 bytes of 32 to 126. -/
def labelOk (l : List UInt8) : Bool := l.all (fun b => decide (32 ≤ b.toNat) && decide (b.toNat ≤ 126)) && decide (1 ≤ l.length) && decide (l.length ≤ 40)
def tls13 : List UInt8 := [116, 108, 115, 49, 51, 32]
def labelB (l ctx : List UInt8) (n : Nat) : List UInt8 := putB n 2 ++ UInt8.ofNat (6 + l.length) :: (tls13 ++ l ++ UInt8.ofNat ctx.length :: ctx)
theorem labelB_len (l ctx : List UInt8) (n : Nat) : (labelB l ctx n).length = l.length + ctx.length + 10 := by simp [labelB, putB_len, tls13]; omega
end Go.Proofs.YtiabacnmmojfjabGreatDoor

/- The contracts of the tests of a word and of a range: spec.l1In, spec.l1Word, impl.isWord answer the Bool inB of their arguments and leave the world as it is. -/
namespace Go.Proofs.YtiabacnmmojfjabGreatDoor
open Go.ChangeShapes Go.WideShapes Go.ChangeAt Go.RowKit

set_option maxHeartbeats 400000 in
theorem l1In_c (v lo hi : Int) (w : World) :
    Calls Tryz.prog 76 #[.int .i64 v, .int .i64 lo, .int .i64 hi] w fun e w' => e = .returned (.bool (inB v lo hi)) ∧ w' = w := by
  by_cases h1 : lo ≤ v
  · by_cases h2 : v ≤ hi
    · go_enter Tryz.func76, Tryz.ntmps76
      go_wp2
      go_ret
      exact ⟨by rw [inB_true h1 h2]; rfl, rfl⟩
    · go_enter Tryz.func76, Tryz.ntmps76
      go_wp2
      go_ret
      exact ⟨by rw [inB_false (by omega)]; rfl, rfl⟩
  · go_enter Tryz.func76, Tryz.ntmps76
    go_wp2
    go_ret
    exact ⟨by rw [inB_false (by omega)]; rfl, rfl⟩



end Go.Proofs.YtiabacnmmojfjabGreatDoor

/- The contracts of TurnWord and of what it calls, in the specification and in the program: both answer turnCode and turnVal, at every argument. -/
namespace Go.Proofs.YtiabacnmmojfjabGreatDoor
open Go.ChangeShapes Go.WideShapes Go.ChangeAt Go.RowKit

def turnCode (v n : Int) : Int := if inB v 0 4294967295 && inB n 0 31 then 0 else 3
def turnVal (v n : Int) : Int := if inB v 0 4294967295 && inB n 0 31 then (rotN v.toNat n.toNat : Nat) else 0
theorem turnCode_ok {a b : Int} (ha : inB a 0 4294967295 = true) (hb : inB b 0 31 = true) : turnCode a b = 0 := by simp [turnCode, ha, hb]
theorem turnVal_ok {a b : Int} (ha : inB a 0 4294967295 = true) (hb : inB b 0 31 = true) : turnVal a b = (rotN a.toNat b.toNat : Nat) := by simp [turnVal, ha, hb]
theorem turnCode_no {a b : Int} (h : inB a 0 4294967295 = false ∨ inB b 0 31 = false) : turnCode a b = 3 := by rcases h with h | h <;> simp [turnCode, h]
theorem turnVal_no {a b : Int} (h : inB a 0 4294967295 = false ∨ inB b 0 31 = false) : turnVal a b = 0 := by rcases h with h | h <;> simp [turnVal, h]
theorem i64_of {a b : Int} (h : a = b) : Value.int .i64 a = .int .i64 b := by rw [h]
theorem ret_i64 {a b : Int} (h : a = b) : Ending.returned (Value.int .i64 a) = .returned (.int .i64 b) := by rw [h]
theorem ret_u32 {a b : Int} (h : a = b) : Ending.returned (Value.int .u32 a) = .returned (.int .u32 b) := by rw [h]

set_option maxHeartbeats 400000 in
theorem l1Turn_c (v n : Nat) (w : World) (h2 : v < 4294967296) (h3 : 1 ≤ n) (h4 : n ≤ 31) :
    Calls Tryz.prog 162 #[.int .i64 v, .int .i64 n] w fun e w' => e = .returned (.int .i64 (rotN v n : Nat)) ∧ w' = w := by
  have hw := wrap_ne n h4
  have HS : Hid (wrap64 ((v : Int) / 2 ^ n + wrap64 ((v : Int) % wrap64 (2 ^ n) * 2 ^ (32 - n))) = (rotN v n : Nat)) := rot_spec v n h2 h3 h4
  have hn : (32 - (n : Int)).toNat = 32 - n := by omega
  go_enter Tryz.func162, Tryz.ntmps162
  go_wp2
  go_ret
  exact ⟨ret_i64 HS.out, rfl⟩


set_option maxHeartbeats 400000 in
theorem rot_c (v n : Nat) (w : World) (h2 : v < 4294967296) (h4 : n ≤ 31) :
    Calls Tryz.prog 220 #[.int .u32 v, .int .i64 (-(n : Int))] w fun e w' => e = .returned (.int .u32 (rotN v n : Nat)) ∧ w' = w := by
  by_cases h0 : n = 0
  · subst h0
    have hk : bits .and .u64 0 31 = 0 := by decide
    have HS : Hid (bits BinOp.or IntKind.u32 (v : Int) ((v : Int) / 4294967296) = (rotN v 0 : Nat)) := by
      rw [rotN_zero, show ((v : Int) / 4294967296) = ((0 : Nat) : Int) by omega]
      exact (u32_or_nat v 0 h2 (by decide)).trans (by simp)
    go_enter Tryz.func220, Tryz.ntmps220
    go_wp2
    go_ret
    exact ⟨ret_u32 HS.out, rfl⟩
  · have hk := and31 n h4
    rw [Nat.mod_eq_of_lt (by omega)] at hk
    have HS : Hid (bits .or .u32 ((v : Int) * 2 ^ (32 - n) % 4294967296) ((v : Int) / 2 ^ n) = (rotN v n : Nat)) := rot_or v n h2 (by omega) h4
    have hn : (32 - ((32 - n : Nat) : Int)).toNat = n := by omega
    have hl : ((32 - n : Nat) : Int) ≤ 32 := by omega
    generalize hm : 32 - n = m at *
    go_enter Tryz.func220, Tryz.ntmps220
    go_wp2
    go_ret
    exact ⟨ret_u32 HS.out, rfl⟩

set_option maxHeartbeats 400000 in
theorem turnRight_c (v n : Nat) (w : World) (h2 : v < 4294967296) (h4 : n ≤ 31) :
    Calls Tryz.prog 219 #[.int .u32 v, .int .i64 n] w fun e w' => e = .returned (.int .u32 (rotN v n : Nat)) ∧ w' = w := by
  go_enter Tryz.func219, Tryz.ntmps219
  go_wp2_with fail
  refine (rot_c v n _ h2 h4).mono ?_
  rintro e w1 ⟨rfl, rfl⟩
  go_wp2
  go_ret
  exact ⟨rfl, rfl⟩


theorem l1Turn_i (v n : Int) (w : World) (h1 : 0 ≤ v) (h2 : v ≤ 4294967295) (h3 : 1 ≤ n) (h4 : n ≤ 31) :
    Calls Tryz.prog 162 #[.int .i64 v, .int .i64 n] w fun e w' => e = .returned (.int .i64 (rotN v.toNat n.toNat : Nat)) ∧ w' = w := by
  obtain ⟨v, rfl⟩ := Int.eq_ofNat_of_zero_le h1
  obtain ⟨n, rfl⟩ := Int.eq_ofNat_of_zero_le (show 0 ≤ n by omega)
  rw [Int.toNat_natCast, Int.toNat_natCast]
  exact l1Turn_c v n w (by omega) (by omega) (by omega)
theorem turnRight_i (v n : Int) (w : World) (h1 : 0 ≤ v) (h2 : v ≤ 4294967295) (h3 : 0 ≤ n) (h4 : n ≤ 31) :
    Calls Tryz.prog 219 #[.int .u32 v, .int .i64 n] w fun e w' => e = .returned (.int .u32 (rotN v.toNat n.toNat : Nat)) ∧ w' = w := by
  obtain ⟨v, rfl⟩ := Int.eq_ofNat_of_zero_le h1
  obtain ⟨n, rfl⟩ := Int.eq_ofNat_of_zero_le h3
  rw [Int.toNat_natCast, Int.toNat_natCast]
  exact turnRight_c v n w (by omega) (by omega)



end Go.Proofs.YtiabacnmmojfjabGreatDoor

/- A region that draws its order, walked once in the order of the text, where all worlds that may come up hold the same cells and leave what lay before, and every call gives one value and leaves what it found. No program in it. -/
namespace Go.Proofs.YtiabacnmmojfjabGreatDoor
open Go Go.RowKit

/-- A world in which all that lay in V is left. -/
structure HW (V : World) where
  w : World
  h : Below V.heap.size V w

theorem HW.at {V : World} {p : Addr} {v : Value} (h : V.cell? p = some v) : ∀ s : HW V, s.w.cell? p = some v := fun s => cell_keep h s.h
theorem HW.out {V w : World} (h : ∃ s : HW V, w = s.w) : Below V.heap.size V w := by
  obtain ⟨s, rfl⟩ := h
  exact s.h
theorem HW.some (V : World) : Nonempty (HW V) := ⟨⟨V, Below.refl _ _⟩⟩

theorem HW.down {V w' : World} {p : Addr} {v : Value} (h : ∀ s : HW V, s.w.cell? p = Option.some v) (hb : Below V.heap.size V w') : ∀ s : HW w', s.w.cell? p = Option.some v := HW.at (h ⟨w', hb⟩)
theorem wp_region_class {P : Program} {id : Nat} {Q : Exit → Act → World → Prop} {a : Act} {V : World} {l : List Oper}
    (hm : P.follows .mixedOrders = true) (hB : Region.lexB .any l.toArray = true)
    (h : wpQuiet P l.toArray (fun w' => ∃ s : HW V, w' = s.w) (fun a' => ∀ w', (∃ s : HW V, w' = s.w) → Q .normal a' w') l a) : (Code.region id l.toArray true).wp P Q a V :=
  wp_region_quiet (C := fun w' => ∃ s : HW V, w' = s.w) hm hB ⟨⟨V.drew, (Below.refl _ _).drew⟩, rfl⟩ (by simpa using h)

/-- A call that leaves what was there. -/
theorem Calls.stay {P : Program} {V : World} {f : FuncId} {args : Array Value} {v : Value} {s : HW V}
    (h : Calls P f args s.w fun e w' => e = .returned v ∧ Below s.w.heap.size s.w w') : Calls P f args s.w fun e w'' => e = .returned v ∧ ∃ s' : HW V, w'' = s'.w :=
  h.mono fun _ w'' ⟨he, hb⟩ => ⟨he, ⟨w'', Below.step s.h hb⟩, rfl⟩
theorem Calls.stay_same {P : Program} {V : World} {f : FuncId} {args : Array Value} {v : Value} {s : HW V}
    (h : Calls P f args s.w fun e w' => e = .returned v ∧ w' = s.w) : Calls P f args s.w fun e w'' => e = .returned v ∧ ∃ s' : HW V, w'' = s'.w :=
  h.mono fun _ _ ⟨he, hb⟩ => ⟨he, s, hb⟩

/-- A quiet region behind another one: the draws add up. -/
theorem wp_region_again {P : Program} {id : Nat} {Q : Exit → Act → World → Prop} {a : Act} {V : World} {k : Nat} {l : List Oper}
    (hm : P.follows .mixedOrders = true) (hB : Region.lexB .any l.toArray = true)
    (h : wpQuiet P l.toArray (fun w' => ∃ n, w' = V.drewN n) (fun a' => ∀ w', (∃ n, w' = V.drewN n) → Q .normal a' w') l a) : (Code.region id l.toArray true).wp P Q a (V.drewN k) :=
  wp_region_quiet (C := fun w' => ∃ n, w' = V.drewN n) hm hB ⟨k + 1, rfl⟩ (by simpa using h)

end Go.Proofs.YtiabacnmmojfjabGreatDoor

