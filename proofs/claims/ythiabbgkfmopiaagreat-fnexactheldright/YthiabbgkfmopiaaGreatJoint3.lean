/- Chapter 2 as plain functions on numbers and bytes, with no program in it: a round (roundN), the words of a block (spreadN), what is padded (padN), the digest (digestN); their bounds and lengths. No conditions but those in each line. -/
import Derived.Test.YthiabbgkfmopiaaGreatJoint2
import Derived.Test.YthiabbgkfmopiaaGreatJoint1
namespace Go.Proofs.YthiabbgkfmopiaaGreat
open Go.RowKit

/-- Eight words. -/
structure S8 where
  a : Nat
  b : Nat
  c : Nat
  d : Nat
  e : Nat
  f : Nat
  g : Nat
  h : Nat
def S8.list (s : S8) : List Nat := [s.a, s.b, s.c, s.d, s.e, s.f, s.g, s.h]
def S8.ok (s : S8) : Prop := s.a < 4294967296 ∧ s.b < 4294967296 ∧ s.c < 4294967296 ∧ s.d < 4294967296 ∧ s.e < 4294967296 ∧ s.f < 4294967296 ∧ s.g < 4294967296 ∧ s.h < 4294967296

def rot3 (x i j k : Nat) : Nat := rotN x i ^^^ rotN x j ^^^ rotN x k
def sh2 (x i j k : Nat) : Nat := rotN x i ^^^ rotN x j ^^^ (x / 2 ^ k)
def chN (e f g : Nat) : Nat := (e &&& f) ^^^ ((4294967295 - e) &&& g)
def majN (a b c : Nat) : Nat := (a &&& b) ^^^ (a &&& c) ^^^ (b &&& c)
def t1N (s : S8) (word key : Nat) : Nat := (s.h + rot3 s.e 6 11 25 + chN s.e s.f s.g + key + word) % 4294967296
def t2N (s : S8) : Nat := (rot3 s.a 2 13 22 + majN s.a s.b s.c) % 4294967296
def roundN (s : S8) (word key : Nat) : S8 :=
  ⟨(t1N s word key + t2N s) % 4294967296, s.a, s.b, s.c, (s.d + t1N s word key) % 4294967296, s.e, s.f, s.g⟩

theorem xor_lt32 {a b : Nat} (h : a < 4294967296) (k : b < 4294967296) : a ^^^ b < 4294967296 := Nat.xor_lt_two_pow (n := 32) h k
theorem and_lt32 {a b : Nat} (h : a < 4294967296) : a &&& b < 4294967296 := Nat.lt_of_le_of_lt Nat.and_le_left h
theorem rot3_lt {x i j k : Nat} (h : x < 4294967296) (hi : i ≤ 32) (hj : j ≤ 32) (hk : k ≤ 32) : rot3 x i j k < 4294967296 :=
  xor_lt32 (xor_lt32 (rotN_lt x i h hi) (rotN_lt x j h hj)) (rotN_lt x k h hk)
theorem sh2_lt {x i j k : Nat} (h : x < 4294967296) (hi : i ≤ 32) (hj : j ≤ 32) : sh2 x i j k < 4294967296 :=
  xor_lt32 (xor_lt32 (rotN_lt x i h hi) (rotN_lt x j h hj)) (Nat.lt_of_le_of_lt (Nat.div_le_self _ _) h)
theorem chN_lt {e f g : Nat} (h : e < 4294967296) : chN e f g < 4294967296 := xor_lt32 (and_lt32 h) (and_lt32 (by omega))
theorem majN_lt {a b c : Nat} (h : a < 4294967296) (k : b < 4294967296) : majN a b c < 4294967296 := xor_lt32 (xor_lt32 (and_lt32 h) (and_lt32 h)) (and_lt32 k)
theorem mod32_lt (x : Nat) : x % 4294967296 < 4294967296 := Nat.mod_lt _ (by decide)
theorem roundN_ok {s : S8} {word key : Nat} (h : s.ok) : (roundN s word key).ok :=
  ⟨mod32_lt _, h.1, h.2.1, h.2.2.1, mod32_lt _, h.2.2.2.2.1, h.2.2.2.2.2.1, h.2.2.2.2.2.2.1⟩

/-- The first sixteen words of a block are its bytes. -/
def word4 (bs : List UInt8) (i : Nat) : Nat := getB ((bs.drop (4 * i)).take 4)
theorem word4_lt (bs : List UInt8) (i : Nat) : word4 bs i < 4294967296 :=
  Nat.lt_of_lt_of_le (getB_lt _) (Nat.le_trans (Nat.pow_le_pow_right (by decide) (List.length_take_le 4 _)) (by decide))
def first16 (bs : List UInt8) : List Nat := (List.range 16).map (word4 bs)
def nextW (ws : List Nat) : Nat := (sh2 (ws.getD (ws.length - 2) 0) 17 19 10 + ws.getD (ws.length - 7) 0 + sh2 (ws.getD (ws.length - 15) 0) 7 18 3 + ws.getD (ws.length - 16) 0) % 4294967296
def moreW (ws : List Nat) : Nat → List Nat
  | 0 => ws
  | k + 1 => moreW ws k ++ [nextW (moreW ws k)]
def spreadN (bs : List UInt8) : List Nat := moreW (first16 bs) 48
theorem moreW_len (ws : List Nat) (k : Nat) : (moreW ws k).length = ws.length + k := by
  induction k with
  | zero => rfl
  | succ k ih => simp [moreW, ih]; omega
theorem first16_len (bs : List UInt8) : (first16 bs).length = 16 := by simp [first16]
theorem spreadN_len (bs : List UInt8) : (spreadN bs).length = 64 := by rw [spreadN, moreW_len, first16_len]
def Words (ws : List Nat) : Prop := ∀ x ∈ ws, x < 4294967296
theorem Words.getD {ws : List Nat} (h : Words ws) (i : Nat) : ws.getD i 0 < 4294967296 := by
  rw [List.getD_eq_getElem?_getD]
  cases e : ws[i]? with
  | none => simp
  | some x => simpa using h x (List.mem_of_getElem? e)
theorem Words.append {a b : List Nat} (h : Words a) (k : Words b) : Words (a ++ b) := fun x hx => (List.mem_append.1 hx).elim (h x) (k x)
theorem first16_ok (bs : List UInt8) : Words (first16 bs) := fun x hx => by
  obtain ⟨i, -, rfl⟩ := List.mem_map.1 hx; exact word4_lt bs i
theorem moreW_ok {ws : List Nat} (h : Words ws) (k : Nat) : Words (moreW ws k) := by
  induction k with
  | zero => exact h
  | succ k ih => exact ih.append (fun x hx => by rw [List.mem_singleton.1 hx]; exact mod32_lt _)
theorem spreadN_ok (bs : List UInt8) : Words (spreadN bs) := moreW_ok (first16_ok bs) 48

/-- What is padded. -/
def gap (n : Nat) : Nat := (119 - n % 64) % 64
def padN (bs : List UInt8) : List UInt8 := bs ++ 128 :: (zs (gap bs.length) ++ putB (8 * bs.length) 8)
theorem padN_len (bs : List UInt8) : (padN bs).length = bs.length + 9 + gap bs.length := by simp [padN, zs_len, putB_len]; omega
theorem padN_len64 (bs : List UInt8) : (padN bs).length = (bs.length + 72) / 64 * 64 := by rw [padN_len]; unfold gap; omega

def keysN : List Nat := [0x428a2f98, 0x71374491, 0xb5c0fbcf, 0xe9b5dba5, 0x3956c25b, 0x59f111f1, 0x923f82a4, 0xab1c5ed5, 0xd807aa98, 0x12835b01, 0x243185be, 0x550c7dc3, 0x72be5d74, 0x80deb1fe, 0x9bdc06a7, 0xc19bf174, 0xe49b69c1, 0xefbe4786, 0x0fc19dc6, 0x240ca1cc, 0x2de92c6f, 0x4a7484aa, 0x5cb0a9dc, 0x76f988da, 0x983e5152, 0xa831c66d, 0xb00327c8, 0xbf597fc7, 0xc6e00bf3, 0xd5a79147, 0x06ca6351, 0x14292967, 0x27b70a85, 0x2e1b2138, 0x4d2c6dfc, 0x53380d13, 0x650a7354, 0x766a0abb, 0x81c2c92e, 0x92722c85, 0xa2bfe8a1, 0xa81a664b, 0xc24b8b70, 0xc76c51a3, 0xd192e819, 0xd6990624, 0xf40e3585, 0x106aa070, 0x19a4c116, 0x1e376c08, 0x2748774c, 0x34b0bcb5, 0x391c0cb3, 0x4ed8aa4a, 0x5b9cca4f, 0x682e6ff3, 0x748f82ee, 0x78a5636f, 0x84c87814, 0x8cc70208, 0x90befffa, 0xa4506ceb, 0xbef9a3f7, 0xc67178f2]
def startN : S8 := ⟨0x6a09e667, 0xbb67ae85, 0x3c6ef372, 0xa54ff53a, 0x510e527f, 0x9b05688c, 0x1f83d9ab, 0x5be0cd19⟩
theorem startN_ok : startN.ok := by unfold S8.ok startN; decide
theorem keysN_ok : Words keysN := by unfold Words keysN; decide

/-- So many rounds over a block's words. -/
def roundsN (ws : List Nat) (s : S8) : Nat → S8
  | 0 => s
  | k + 1 => roundN (roundsN ws s k) (ws.getD k 0) (keysN.getD k 0)
theorem roundsN_ok (ws : List Nat) {s : S8} (h : s.ok) (k : Nat) : (roundsN ws s k).ok := by
  induction k with
  | zero => exact h
  | succ k ih => exact roundN_ok ih
def addS (s t : S8) : S8 := ⟨(s.a + t.a) % 4294967296, (s.b + t.b) % 4294967296, (s.c + t.c) % 4294967296, (s.d + t.d) % 4294967296, (s.e + t.e) % 4294967296, (s.f + t.f) % 4294967296, (s.g + t.g) % 4294967296, (s.h + t.h) % 4294967296⟩
theorem addS_ok (s t : S8) : (addS s t).ok := ⟨mod32_lt _, mod32_lt _, mod32_lt _, mod32_lt _, mod32_lt _, mod32_lt _, mod32_lt _, mod32_lt _⟩
def blockN (s : S8) (bs : List UInt8) : S8 := addS s (roundsN (spreadN bs) s 64)
def blocksN (bs : List UInt8) : Nat → S8
  | 0 => startN
  | k + 1 => blockN (blocksN bs k) ((bs.drop (64 * k)).take 64)
theorem blocksN_ok (bs : List UInt8) (k : Nat) : (blocksN bs k).ok := by
  cases k with
  | zero => exact startN_ok
  | succ k => exact addS_ok _ _
def stateB (s : S8) : List UInt8 := putB s.a 4 ++ putB s.b 4 ++ putB s.c 4 ++ putB s.d 4 ++ putB s.e 4 ++ putB s.f 4 ++ putB s.g 4 ++ putB s.h 4
theorem stateB_len (s : S8) : (stateB s).length = 32 := by simp [stateB, putB_len]
def digestN (bs : List UInt8) : List UInt8 := stateB (blocksN (padN bs) ((bs.length + 72) / 64))
theorem digestN_len (bs : List UInt8) : (digestN bs).length = 32 := stateB_len _

/-- Numbers in memory: words in int64, words in uint32. -/
def i64v (n : Nat) : Value := .int .i64 (n : Int)
def u32v (n : Nat) : Value := .int .u32 (n : Int)
def S8.i64 (s : S8) : Array Value := #[.int .i64 (s.a : Int), .int .i64 (s.b : Int), .int .i64 (s.c : Int), .int .i64 (s.d : Int), .int .i64 (s.e : Int), .int .i64 (s.f : Int), .int .i64 (s.g : Int), .int .i64 (s.h : Int)]
def S8.u32 (s : S8) : Array Value := #[.int .u32 (s.a : Int), .int .u32 (s.b : Int), .int .u32 (s.c : Int), .int .u32 (s.d : Int), .int .u32 (s.e : Int), .int .u32 (s.f : Int), .int .u32 (s.g : Int), .int .u32 (s.h : Int)]

end Go.Proofs.YthiabbgkfmopiaaGreat

/- Chapter 3 as plain functions on bytes, with no program in it: a key's block (blockK), the mac (macN), what is extracted (extractN), what is expanded (expandN), a label's bytes (labelB); their lengths. No conditions but those in each line. -/
namespace Go.Proofs.YthiabbgkfmopiaaGreat
open Go.RowKit

def blockK (key : List UInt8) (x : UInt8) : List UInt8 := (key ++ zs (64 - key.length)).map (· ^^^ x)
theorem blockK_len {key : List UInt8} (x : UInt8) (h : key.length ≤ 64) : (blockK key x).length = 64 := by simp [blockK, zs_len]; omega
def macN (key data : List UInt8) : List UInt8 := digestN (blockK key 92 ++ digestN (blockK key 54 ++ data))
theorem macN_len (key data : List UInt8) : (macN key data).length = 32 := digestN_len _
/-- A key with zeros behind it is the same key. -/
theorem blockK_zeros (key : List UInt8) (n : Nat) (x : UInt8) (h : key.length + n ≤ 64) : blockK (key ++ zs n) x = blockK key x := by
  unfold blockK
  rw [List.length_append, zs_len, List.append_assoc]
  congr 2
  rw [show zs n ++ zs (64 - (key.length + n)) = zs (64 - key.length) by unfold zs; rw [List.replicate_append_replicate]; congr 1; omega]
theorem macN_zeros (key data : List UInt8) (n : Nat) (h : key.length + n ≤ 64) : macN (key ++ zs n) data = macN key data := by
  unfold macN
  rw [blockK_zeros key n _ h, blockK_zeros key n _ h]
def saltN (salt : List UInt8) : List UInt8 := if salt.length = 0 then zs 32 else salt
theorem saltN_len (salt : List UInt8) (h : salt.length ≤ 64) : (saltN salt).length ≤ 64 := by
  unfold saltN; split
  · rw [zs_len]; decide
  · exact h
def extractN (salt data : List UInt8) : List UInt8 := macN (saltN salt) data
theorem extractN_len (salt data : List UInt8) : (extractN salt data).length = 32 := macN_len _ _
theorem extractN_eq (salt data : List UInt8) : extractN salt data = macN salt data := by
  unfold extractN saltN
  split
  · rename_i h
    have e : salt = [] := List.eq_nil_of_length_eq_zero h
    subst e
    exact macN_zeros [] data 32 (by decide)
  · rfl

/-- t i, and all up to it. -/
def lastN (key info : List UInt8) : Nat → List UInt8
  | 0 => []
  | i + 1 => macN key (lastN key info i ++ info ++ [UInt8.ofNat (i + 1)])
def outN (key info : List UInt8) : Nat → List UInt8
  | 0 => []
  | i + 1 => outN key info i ++ lastN key info (i + 1)
theorem lastN_len (key info : List UInt8) (i : Nat) : (lastN key info i).length ≤ 32 := by
  cases i with
  | zero => simp [lastN]
  | succ i => exact Nat.le_of_eq (macN_len _ _)
theorem lastN_succ (key info : List UInt8) (i : Nat) : lastN key info (i + 1) = macN key (lastN key info i ++ info ++ [UInt8.ofNat (i + 1)]) := rfl
theorem outN_len (key info : List UInt8) (i : Nat) : (outN key info i).length = 32 * i := by
  induction i with
  | zero => rfl
  | succ i ih => rw [outN, List.length_append, ih, lastN_succ, macN_len]; omega
def expandN (key info : List UInt8) (n : Nat) : List UInt8 := (outN key info ((n + 31) / 32)).take n
theorem expandN_len (key info : List UInt8) (n : Nat) : (expandN key info n).length = n := by
  rw [expandN, List.length_take, outN_len]; omega
theorem outN_take (key info : List UInt8) (i j : Nat) (h : i ≤ j) : (outN key info j).take (32 * i) = outN key info i := by
  induction j with
  | zero => have : i = 0 := by omega
            subst this; rfl
  | succ j ih =>
    by_cases e : i = j + 1
    · subst e; rw [List.take_of_length_le (by rw [outN_len]; exact Nat.le_refl _)]
    · rw [outN, List.take_append_of_le_length (by rw [outN_len]; omega)]; exact ih (by omega)
/-- A shorter key is the beginning of a longer one. -/
theorem expandN_take (key info : List UInt8) (m n : Nat) (h : m ≤ n) : (expandN key info n).take m = expandN key info m := by
  unfold expandN
  rw [List.take_take, Nat.min_eq_left h, ← outN_take key info ((m + 31) / 32) ((n + 31) / 32) (by omega), List.take_take, Nat.min_eq_left (by omega)]

/-- A label: 1 to 40 bytes of 32 to 126. -/
def labelOk (l : List UInt8) : Bool := l.all (fun b => decide (32 ≤ b.toNat) && decide (b.toNat ≤ 126)) && decide (1 ≤ l.length) && decide (l.length ≤ 40)
def tls13 : List UInt8 := [116, 108, 115, 49, 51, 32]
def labelB (l ctx : List UInt8) (n : Nat) : List UInt8 := putB n 2 ++ UInt8.ofNat (6 + l.length) :: (tls13 ++ l ++ UInt8.ofNat ctx.length :: ctx)
theorem labelB_len (l ctx : List UInt8) (n : Nat) : (labelB l ctx n).length = l.length + ctx.length + 10 := by simp [labelB, putB_len, tls13]; omega
end Go.Proofs.YthiabbgkfmopiaaGreat

