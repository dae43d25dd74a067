/- A word turned to the right, as a number (rotN); what the specification and the program reckon is that number. For words below 2^32 and turns of 1 to 31. -/
import Derived.WalkKit
import Derived.Test.YtpcgpefefklfoaaDoorBytes
namespace Go.Proofs.YtpcgpefefklfoaaDoor
open Go.RowKit

/-- A word turned to the right by n bits: as a number. -/
def rotN (v n : Nat) : Nat := v / 2 ^ n + v % 2 ^ n * 2 ^ (32 - n)

theorem pow_parts (n : Nat) (h : n ≤ 32) : 2 ^ n * 2 ^ (32 - n) = 4294967296 := by
  rw [← Nat.pow_add, show n + (32 - n) = 32 by omega]

theorem rotN_lt (v n : Nat) (hv : v < 4294967296) (hn : n ≤ 32) : rotN v n < 4294967296 := by
  have hp := pow_parts n hn
  have h1 : v / 2 ^ n < 2 ^ (32 - n) := by
    rw [Nat.div_lt_iff_lt_mul (Nat.two_pow_pos n), Nat.mul_comm, hp]; exact hv
  have h2 : v % 2 ^ n < 2 ^ n := Nat.mod_lt _ (Nat.two_pow_pos n)
  have h3 : (v % 2 ^ n + 1) * 2 ^ (32 - n) ≤ 2 ^ n * 2 ^ (32 - n) := Nat.mul_le_mul_right _ h2
  rw [hp, Nat.add_mul] at h3
  unfold rotN
  omega

theorem rotN_zero (v : Nat) : rotN v 0 = v := by simp [rotN, Nat.mod_one]

theorem rot_or (v n : Nat) (hv : v < 4294967296) (h1 : 1 ≤ n) (h2 : n ≤ 31) :
    bits .or .u32 ((v : Int) * 2 ^ (32 - n) % 4294967296) ((v : Int) / 2 ^ n) = (rotN v n : Nat) := by
  have hp := pow_parts n (by omega)
  have e1 : ((v : Int) * 2 ^ (32 - n) % 4294967296) = ((v % 2 ^ n * 2 ^ (32 - n) : Nat) : Int) := by
    rw [← Nat.mul_mod_mul_right (2 ^ (32 - n)) v (2 ^ n), hp, Int.natCast_emod, Int.natCast_mul, Int.natCast_pow]; rfl
  have e2 : ((v : Int) / 2 ^ n) = ((v / 2 ^ n : Nat) : Int) := by push_cast; rfl
  have a1 : v % 2 ^ n * 2 ^ (32 - n) < 4294967296 := by
    have := rotN_lt v n hv (by omega); unfold rotN at this; omega
  have a2 : v / 2 ^ n < 2 ^ (32 - n) := by
    rw [Nat.div_lt_iff_lt_mul (Nat.two_pow_pos n), Nat.mul_comm, hp]; exact hv
  have a3 : v / 2 ^ n < 4294967296 := Nat.lt_of_le_of_lt (Nat.div_le_self _ _) hv
  rw [e1, e2, u32_or_nat _ _ a1 a3, ← Nat.shiftLeft_eq, ← Nat.shiftLeft_add_eq_or_of_lt a2, Nat.shiftLeft_eq]
  unfold rotN
  rw [Nat.add_comm]

theorem and31 (n : Nat) (h : n ≤ 31) : bits .and .u64 (IntKind.u64.wrap (-(n : Int))) 31 = ((32 - n) % 32 : Nat) := by
  have : ∀ n : Fin 32, bits .and .u64 (IntKind.u64.wrap (-(n.val : Int))) 31 = ((32 - n.val) % 32 : Nat) := by decide
  exact this ⟨n, by omega⟩

theorem rot_spec (v n : Nat) (hv : v < 4294967296) (h1 : 1 ≤ n) (h2 : n ≤ 31) :
    wrap64 ((v : Int) / 2 ^ n + wrap64 ((v : Int) % wrap64 (2 ^ n) * 2 ^ (32 - n))) = (rotN v n : Nat) := by
  have hl := rotN_lt v n hv (by omega)
  have e0 : wrap64 (2 ^ n) = 2 ^ n := by
    have h3 : (2 : Nat) ^ n ≤ 2 ^ 31 := Nat.pow_le_pow_right (by decide) h2
    have h4 : ((2 ^ n : Nat) : Int) ≤ 2147483648 := by omega
    have h5 : (0 : Int) ≤ ((2 ^ n : Nat) : Int) := Int.natCast_nonneg _
    push_cast at h4 h5
    unfold wrap64; omega
  rw [e0]
  have e1 : ((v : Int) % 2 ^ n * 2 ^ (32 - n)) = ((v % 2 ^ n * 2 ^ (32 - n) : Nat) : Int) := by push_cast; rfl
  have e2 : ((v : Int) / 2 ^ n) = ((v / 2 ^ n : Nat) : Int) := by push_cast; rfl
  rw [e1, e2]
  unfold rotN at hl ⊢
  generalize v / 2 ^ n = A at *
  generalize v % 2 ^ n * 2 ^ (32 - n) = B at *
  clear e0 e1 e2
  unfold wrap64; omega
theorem wrap_ne (n : Nat) (h2 : n ≤ 31) : wrap64 (2 ^ n) ≠ 0 := by
    have h3 : (2 : Nat) ^ n ≤ 2 ^ 31 := Nat.pow_le_pow_right (by decide) h2
    have h4 : ((2 ^ n : Nat) : Int) ≤ 2147483648 := by omega
    have h5 : (0 : Int) < ((2 ^ n : Nat) : Int) := by have := Nat.two_pow_pos n; omega
    push_cast at h4 h5
    unfold wrap64; omega
/-- Turned on by what is left of 32, a word is itself. -/
theorem rotN_back (v n : Nat) (hv : v < 4294967296) (hn : n ≤ 31) : rotN (rotN v n) ((32 - n) % 32) = v := by
  by_cases h0 : n = 0
  · subst h0; rw [rotN_zero]; exact rotN_zero v
  · rw [Nat.mod_eq_of_lt (by omega)]
    have hp := pow_parts n (by omega)
    have a2 : v / 2 ^ n < 2 ^ (32 - n) := by
      rw [Nat.div_lt_iff_lt_mul (Nat.two_pow_pos n), Nat.mul_comm, hp]; exact hv
    have e : 32 - (32 - n) = n := by omega
    have hdm := Nat.div_add_mod v (2 ^ n)
    unfold rotN
    rw [e, Nat.add_mul_div_right _ _ (Nat.two_pow_pos (32 - n)), Nat.div_eq_of_lt a2, Nat.add_mul_mod_self_right, Nat.mod_eq_of_lt a2, Nat.mul_comm (v / 2 ^ n)]
    omega

end Go.Proofs.YtpcgpefefklfoaaDoor

/- Numbers as bytes, with no program in it: putB v k: the k lowest bytes of v, the highest one first; getB: the number that bytes are. -/
namespace Go.Proofs.YtpcgpefefklfoaaDoor
open Go.RowKit

def putB (v : Nat) : Nat → List UInt8
  | 0 => []
  | k + 1 => UInt8.ofNat (v / 256 ^ k % 256) :: putB v k
theorem putB_len (v k : Nat) : (putB v k).length = k := by
  induction k with
  | zero => rfl
  | succ k ih => simp [putB, ih]
/-- What a loop that fills a row from its last element on has laid behind k rounds. -/
def tailed (v n k : Nat) : List Value := List.replicate (n - k) (.int .u8 0) ++ (putB v k).map u8v
theorem tailed_zero (v n : Nat) : tailed v n 0 = List.replicate n (.int .u8 0) := by simp [tailed, putB]
theorem tailed_all (v n : Nat) : tailed v n n = (putB v n).map u8v := by simp [tailed]
theorem tailed_len (v n k : Nat) (h : k ≤ n) : (tailed v n k).length = n := by simp [tailed, putB_len]; omega
theorem tailed_at (v n k : Nat) (h : k < n) : (tailed v n k)[n - 1 - k]? = some (.int .u8 0) := by
  unfold tailed
  rw [List.getElem?_append_left (by simp; omega), List.getElem?_replicate, if_pos (by omega)]
theorem tailed_set (v n k : Nat) (h : k < n) : (tailed v n k).set (n - 1 - k) (.int .u8 ((v / 256 ^ k % 256 : Nat) : Int)) = tailed v n (k + 1) := by
  have e : u8v (UInt8.ofNat (v / 256 ^ k % 256)) = .int .u8 ((v / 256 ^ k % 256 : Nat) : Int) := by
    unfold u8v; rw [UInt8.toNat_ofNat', Nat.mod_mod]
  unfold tailed
  rw [show n - k = (n - (k + 1)) + 1 by omega, List.replicate_succ', List.append_assoc, List.set_append_right _ _ (by simp; omega)]
  rw [List.length_replicate, show n - 1 - k - (n - (k + 1)) = 0 by omega]
  simp only [putB, List.map_cons, e]
  rfl

def getB (bs : List UInt8) : Nat := bs.foldl (fun n b => n * 256 + b.toNat) 0
theorem getB_snoc (bs : List UInt8) (b : UInt8) : getB (bs ++ [b]) = getB bs * 256 + b.toNat := by simp [getB]
theorem getB_take (bs : List UInt8) (k : Nat) (h : k < bs.length) : ((getB (bs.take (k + 1)) : Nat) : Int) = (getB (bs.take k) : Int) * 256 + at8 bs k := by
  rw [List.take_succ_eq_append_getElem h, getB_snoc, at8_get h]; omega
theorem getB_lt (bs : List UInt8) : getB bs < 256 ^ bs.length := by
  suffices h : ∀ (bs : List UInt8) (m k : Nat), m < 256 ^ k → bs.foldl (fun n b => n * 256 + b.toNat) m < 256 ^ (k + bs.length) by
    have := h bs 0 0 (by decide); simpa [getB] using this
  intro bs
  induction bs with
  | nil => intro m k hm; simpa using hm
  | cons b bs ih =>
    intro m k hm
    have hb := b.toNat_lt
    have := ih (m * 256 + b.toNat) (k + 1) (by rw [Nat.pow_succ]; omega)
    rw [List.foldl_cons, List.length_cons, show k + (bs.length + 1) = k + 1 + bs.length by omega]
    exact this
theorem getB_take_lt (bs : List UInt8) (k : Nat) (h : k ≤ 4) : getB (bs.take k) < 4294967296 :=
  Nat.lt_of_lt_of_le (getB_lt _) (Nat.le_trans (Nat.pow_le_pow_right (by decide) (Nat.le_trans (List.length_take_le _ _) h)) (by decide))
theorem getB_take_lt3 (bs : List UInt8) (k : Nat) (h : k ≤ 3) : getB (bs.take k) < 16777216 :=
  Nat.lt_of_lt_of_le (getB_lt _) (Nat.le_trans (Nat.pow_le_pow_right (by decide) (Nat.le_trans (List.length_take_le _ _) h)) (by decide))
/-- The program's step: shifted by eight bits, and the byte laid in. -/
theorem or_step (m : Nat) (b : Int) (hm : m < 16777216) (h0 : 0 ≤ b) (h1 : b ≤ 255) : bits .or .u32 ((m : Int) * 256) b = (m : Int) * 256 + b := by
  obtain ⟨b, rfl⟩ := Int.eq_ofNat_of_zero_le h0
  have h2 : b < 2 ^ 8 := by omega
  rw [show ((m : Int) * 256) = ((m * 256 : Nat) : Int) by omega, u32_or_nat _ _ (by omega) (by omega), show m * 256 = m <<< 8 by rw [Nat.shiftLeft_eq], ← Nat.shiftLeft_add_eq_or_of_lt h2, Nat.shiftLeft_eq]
  omega

theorem getB_put4 (v : Nat) (h : v < 4294967296) : getB (putB v 4) = v := by
  have e4 : putB v 4 = [UInt8.ofNat (v / 16777216 % 256), UInt8.ofNat (v / 65536 % 256), UInt8.ofNat (v / 256 % 256), UInt8.ofNat (v / 1 % 256)] := rfl
  rw [e4]
  simp only [getB, List.foldl_cons, List.foldl_nil, UInt8.toNat_ofNat']
  omega

end Go.Proofs.YtpcgpefefklfoaaDoor

/- Xor and and of words that stand in int64, as numbers. For numbers below 2^63. No program in it. -/
namespace Go.Proofs.YtpcgpefefklfoaaDoor
open Go.RowKit

theorem ofInt_i64 (a : Nat) (h : a < 9223372036854775808) : (BitVec.ofInt 64 (a : Int)).toNat = a := by
  rw [BitVec.toNat_ofInt]
  omega
theorem wrap_i64_nat (a : Nat) (h : a < 9223372036854775808) : IntKind.i64.wrap (a : Int) = a := by
  rw [IntKind.wrap_i64]
  omega
theorem i64_xor_nat (a b : Nat) (ha : a < 9223372036854775808) (hb : b < 9223372036854775808) : bits .xor .i64 (a : Int) (b : Int) = ((a ^^^ b : Nat) : Int) := by
  have hx : a ^^^ b < 2 ^ 63 := Nat.xor_lt_two_pow (by omega) (by omega)
  show IntKind.i64.wrap ((BitVec.ofInt 64 (a : Int) ^^^ BitVec.ofInt 64 (b : Int)).toNat : Int) = _
  rw [BitVec.toNat_xor, ofInt_i64 a ha, ofInt_i64 b hb, wrap_i64_nat _ (by omega)]
theorem i64_and_nat (a b : Nat) (ha : a < 9223372036854775808) (hb : b < 9223372036854775808) : bits .and .i64 (a : Int) (b : Int) = ((a &&& b : Nat) : Int) := by
  have hx : a &&& b < 2 ^ 63 := Nat.and_lt_two_pow _ (by omega)
  show IntKind.i64.wrap ((BitVec.ofInt 64 (a : Int) &&& BitVec.ofInt 64 (b : Int)).toNat : Int) = _
  rw [BitVec.toNat_and, ofInt_i64 a ha, ofInt_i64 b hb, wrap_i64_nat _ (by omega)]
end Go.Proofs.YtpcgpefefklfoaaDoor

