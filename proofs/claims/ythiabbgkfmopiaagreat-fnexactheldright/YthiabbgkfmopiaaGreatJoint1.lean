/- What the walks leave open of plain arithmetic, with no program in it: the test of a range as a Bool that the walk does not open; sums of words. No conditions but those in each line. -/
import Derived.WalkKit
namespace Go.Proofs.YthiabbgkfmopiaaGreat
open Go.RowKit

def inB (v lo hi : Int) : Bool := decide (lo ≤ v ∧ v ≤ hi)
theorem inB_true {v lo hi : Int} (h1 : lo ≤ v) (h2 : v ≤ hi) : inB v lo hi = true := by simp [inB, h1, h2]
theorem inB_false {v lo hi : Int} (h : ¬ (lo ≤ v ∧ v ≤ hi)) : inB v lo hi = false := by simpa [inB] using h

/-- Behind a call that leaves all that was there: every old cell and every old mark reads as before. -/
theorem bcell {B : Nat} {W w1 : World} (hb : Below B W w1) : (∀ b o, b < B → w1.cell? ⟨b, o, none⟩ = W.cell? ⟨b, o, none⟩) ∧ (∀ b o, b < B → w1.frozen? ⟨b, o, none⟩ = W.frozen? ⟨b, o, none⟩) :=
  ⟨fun b o h => hb.cell (p := ⟨b, o, none⟩) h, fun b o h => hb.frozen (p := ⟨b, o, none⟩) h⟩
theorem size_alloc (w : World) (o : Obj) : (w.alloc o).heap.size = w.heap.size + 1 := by simp
theorem size_lt {w w1 : World} {o : Obj} (hb : Below (w.alloc o).heap.size (w.alloc o) w1) : w.heap.size < w1.heap.size := by have := hb.size; rw [size_alloc] at this; omega
/-- Calls one behind the other, each of which leaves what it found. -/
theorem Below.step {W a b : World} (h : Below W.heap.size W a) (k : Below a.heap.size a b) : Below W.heap.size W b := h.trans (k.mono h.size)
theorem Below.res {w w1 : World} {o : Obj} (hb : Below (w.alloc o).heap.size (w.alloc o) w1) : Below w.heap.size w w1 :=
  Below.step ((Below.refl _ _).alloc (Nat.le_refl _) _) hb
theorem Below.mk {W a : World} (h : Below W.heap.size W a) (o : Obj) : Below W.heap.size W (a.alloc o) := h.alloc h.size o

end Go.Proofs.YthiabbgkfmopiaaGreat

/- A word turned to the right, as a number (rotN); what the specification and the program reckon is that number. For words below 2^32 and turns of 1 to 31. -/
namespace Go.Proofs.YthiabbgkfmopiaaGreat
open Go.RowKit

/-- A word turned to the right by n bits: as a number. -/
def rotN (v n : Nat) : Nat := v / 2 ^ n + v % 2 ^ n * 2 ^ (32 - n)

theorem pow_parts (n : Nat) (h : n ≤ 32) : 2 ^ n * 2 ^ (32 - n) = 4294967296 := by
  rw [← Nat.pow_add, show n + (32 - n) = 32 by omega]

theorem rotN_lt (v n : Nat) (hv : v < 4294967296) (hn : n ≤ 32) : rotN v n < 4294967296 := by
  have hp := pow_parts n hn
  have h1 : v / 2 ^ n < 2 ^ (32 - n) := by
    rw [Nat.div_lt_iff_lt_mul (Nat.two_pow_pos n), Nat.mul_comm, hp]; exact hv
  have h2 : v % 2 ^ n < 2 ^ n := Nat.mod_lt _ (Nat.two_pow_pos n)
  have h3 : (v % 2 ^ n + 1) * 2 ^ (32 - n) ≤ 2 ^ n * 2 ^ (32 - n) := Nat.mul_le_mul_right _ h2
  rw [hp, Nat.add_mul] at h3
  unfold rotN
  omega

theorem rotN_zero (v : Nat) : rotN v 0 = v := by simp [rotN, Nat.mod_one]

theorem rot_or (v n : Nat) (hv : v < 4294967296) (h1 : 1 ≤ n) (h2 : n ≤ 31) :
    bits .or .u32 ((v : Int) * 2 ^ (32 - n) % 4294967296) ((v : Int) / 2 ^ n) = (rotN v n : Nat) := by
  have hp := pow_parts n (by omega)
  have e1 : ((v : Int) * 2 ^ (32 - n) % 4294967296) = ((v % 2 ^ n * 2 ^ (32 - n) : Nat) : Int) := by
    rw [← Nat.mul_mod_mul_right (2 ^ (32 - n)) v (2 ^ n), hp, Int.natCast_emod, Int.natCast_mul, Int.natCast_pow]; rfl
  have e2 : ((v : Int) / 2 ^ n) = ((v / 2 ^ n : Nat) : Int) := by push_cast; rfl
  have a1 : v % 2 ^ n * 2 ^ (32 - n) < 4294967296 := by
    have := rotN_lt v n hv (by omega); unfold rotN at this; omega
  have a2 : v / 2 ^ n < 2 ^ (32 - n) := by
    rw [Nat.div_lt_iff_lt_mul (Nat.two_pow_pos n), Nat.mul_comm, hp]; exact hv
  have a3 : v / 2 ^ n < 4294967296 := Nat.lt_of_le_of_lt (Nat.div_le_self _ _) hv
  rw [e1, e2, u32_or_nat _ _ a1 a3, ← Nat.shiftLeft_eq, ← Nat.shiftLeft_add_eq_or_of_lt a2, Nat.shiftLeft_eq]
  unfold rotN
  rw [Nat.add_comm]

theorem and31 (n : Nat) (h : n ≤ 31) : bits .and .u64 (IntKind.u64.wrap (-(n : Int))) 31 = ((32 - n) % 32 : Nat) := by
  have : ∀ n : Fin 32, bits .and .u64 (IntKind.u64.wrap (-(n.val : Int))) 31 = ((32 - n.val) % 32 : Nat) := by decide
  exact this ⟨n, by omega⟩

theorem rot_spec (v n : Nat) (hv : v < 4294967296) (h1 : 1 ≤ n) (h2 : n ≤ 31) :
    wrap64 ((v : Int) / 2 ^ n + wrap64 ((v : Int) % wrap64 (2 ^ n) * 2 ^ (32 - n))) = (rotN v n : Nat) := by
  have hl := rotN_lt v n hv (by omega)
  have e0 : wrap64 (2 ^ n) = 2 ^ n := by
    have h3 : (2 : Nat) ^ n ≤ 2 ^ 31 := Nat.pow_le_pow_right (by decide) h2
    have h4 : ((2 ^ n : Nat) : Int) ≤ 2147483648 := by omega
    have h5 : (0 : Int) ≤ ((2 ^ n : Nat) : Int) := Int.natCast_nonneg _
    push_cast at h4 h5
    unfold wrap64; omega
  rw [e0]
  have e1 : ((v : Int) % 2 ^ n * 2 ^ (32 - n)) = ((v % 2 ^ n * 2 ^ (32 - n) : Nat) : Int) := by push_cast; rfl
  have e2 : ((v : Int) / 2 ^ n) = ((v / 2 ^ n : Nat) : Int) := by push_cast; rfl
  rw [e1, e2]
  unfold rotN at hl ⊢
  generalize v / 2 ^ n = A at *
  generalize v % 2 ^ n * 2 ^ (32 - n) = B at *
  clear e0 e1 e2
  unfold wrap64; omega
theorem wrap_ne (n : Nat) (h2 : n ≤ 31) : wrap64 (2 ^ n) ≠ 0 := by
    have h3 : (2 : Nat) ^ n ≤ 2 ^ 31 := Nat.pow_le_pow_right (by decide) h2
    have h4 : ((2 ^ n : Nat) : Int) ≤ 2147483648 := by omega
    have h5 : (0 : Int) < ((2 ^ n : Nat) : Int) := by have := Nat.two_pow_pos n; omega
    push_cast at h4 h5
    unfold wrap64; omega
/-- Turned on by what is left of 32, a word is itself. -/
theorem rotN_back (v n : Nat) (hv : v < 4294967296) (hn : n ≤ 31) : rotN (rotN v n) ((32 - n) % 32) = v := by
  by_cases h0 : n = 0
  · subst h0; rw [rotN_zero]; exact rotN_zero v
  · rw [Nat.mod_eq_of_lt (by omega)]
    have hp := pow_parts n (by omega)
    have a2 : v / 2 ^ n < 2 ^ (32 - n) := by
      rw [Nat.div_lt_iff_lt_mul (Nat.two_pow_pos n), Nat.mul_comm, hp]; exact hv
    have e : 32 - (32 - n) = n := by omega
    have hdm := Nat.div_add_mod v (2 ^ n)
    unfold rotN
    rw [e, Nat.add_mul_div_right _ _ (Nat.two_pow_pos (32 - n)), Nat.div_eq_of_lt a2, Nat.add_mul_mod_self_right, Nat.mod_eq_of_lt a2, Nat.mul_comm (v / 2 ^ n)]
    omega

end Go.Proofs.YthiabbgkfmopiaaGreat

/- Xor and and of words that stand in int64, as numbers. For numbers below 2^63. No program in it. -/
namespace Go.Proofs.YthiabbgkfmopiaaGreat
open Go.RowKit

theorem ofInt_i64 (a : Nat) (h : a < 9223372036854775808) : (BitVec.ofInt 64 (a : Int)).toNat = a := by
  rw [BitVec.toNat_ofInt]
  omega
theorem wrap_i64_nat (a : Nat) (h : a < 9223372036854775808) : IntKind.i64.wrap (a : Int) = a := by
  rw [IntKind.wrap_i64]
  omega
theorem i64_xor_nat (a b : Nat) (ha : a < 9223372036854775808) (hb : b < 9223372036854775808) : bits .xor .i64 (a : Int) (b : Int) = ((a ^^^ b : Nat) : Int) := by
  have hx : a ^^^ b < 2 ^ 63 := Nat.xor_lt_two_pow (by omega) (by omega)
  show IntKind.i64.wrap ((BitVec.ofInt 64 (a : Int) ^^^ BitVec.ofInt 64 (b : Int)).toNat : Int) = _
  rw [BitVec.toNat_xor, ofInt_i64 a ha, ofInt_i64 b hb, wrap_i64_nat _ (by omega)]
theorem i64_and_nat (a b : Nat) (ha : a < 9223372036854775808) (hb : b < 9223372036854775808) : bits .and .i64 (a : Int) (b : Int) = ((a &&& b : Nat) : Int) := by
  have hx : a &&& b < 2 ^ 63 := Nat.and_lt_two_pow _ (by omega)
  show IntKind.i64.wrap ((BitVec.ofInt 64 (a : Int) &&& BitVec.ofInt 64 (b : Int)).toNat : Int) = _
  rw [BitVec.toNat_and, ofInt_i64 a ha, ofInt_i64 b hb, wrap_i64_nat _ (by omega)]
end Go.Proofs.YthiabbgkfmopiaaGreat

