/- Numbers as bytes, with no program in it: putB v k: the k lowest bytes of v, the highest one first; getB: the number that bytes are. -/
import Derived.Test.YtflhoefocjmihaaBytes
namespace Go.Proofs.Ytflhoefocjmihaa
open Go.RowKit

def putB (v : Nat) : Nat → List UInt8
  | 0 => []
  | k + 1 => UInt8.ofNat (v / 256 ^ k % 256) :: putB v k
theorem putB_len (v k : Nat) : (putB v k).length = k := by
  induction k with
  | zero => rfl
  | succ k ih => simp [putB, ih]
/-- What a loop that fills a row from its last element on has laid behind k rounds. -/
def tailed (v n k : Nat) : List Value := List.replicate (n - k) (.int .u8 0) ++ (putB v k).map u8v
theorem tailed_zero (v n : Nat) : tailed v n 0 = List.replicate n (.int .u8 0) := by simp [tailed, putB]
theorem tailed_all (v n : Nat) : tailed v n n = (putB v n).map u8v := by simp [tailed]
theorem tailed_len (v n k : Nat) (h : k ≤ n) : (tailed v n k).length = n := by simp [tailed, putB_len]; omega
theorem tailed_at (v n k : Nat) (h : k < n) : (tailed v n k)[n - 1 - k]? = some (.int .u8 0) := by
  unfold tailed
  rw [List.getElem?_append_left (by simp; omega), List.getElem?_replicate, if_pos (by omega)]
theorem tailed_set (v n k : Nat) (h : k < n) : (tailed v n k).set (n - 1 - k) (.int .u8 ((v / 256 ^ k % 256 : Nat) : Int)) = tailed v n (k + 1) := by
  have e : u8v (UInt8.ofNat (v / 256 ^ k % 256)) = .int .u8 ((v / 256 ^ k % 256 : Nat) : Int) := by
    unfold u8v; rw [UInt8.toNat_ofNat', Nat.mod_mod]
  unfold tailed
  rw [show n - k = (n - (k + 1)) + 1 by omega, List.replicate_succ', List.append_assoc, List.set_append_right _ _ (by simp; omega)]
  rw [List.length_replicate, show n - 1 - k - (n - (k + 1)) = 0 by omega]
  simp only [putB, List.map_cons, e]
  rfl

def getB (bs : List UInt8) : Nat := bs.foldl (fun n b => n * 256 + b.toNat) 0
theorem getB_snoc (bs : List UInt8) (b : UInt8) : getB (bs ++ [b]) = getB bs * 256 + b.toNat := by simp [getB]
theorem getB_take (bs : List UInt8) (k : Nat) (h : k < bs.length) : ((getB (bs.take (k + 1)) : Nat) : Int) = (getB (bs.take k) : Int) * 256 + at8 bs k := by
  rw [List.take_succ_eq_append_getElem h, getB_snoc, at8_get h]; omega
theorem getB_lt (bs : List UInt8) : getB bs < 256 ^ bs.length := by
  suffices h : ∀ (bs : List UInt8) (m k : Nat), m < 256 ^ k → bs.foldl (fun n b => n * 256 + b.toNat) m < 256 ^ (k + bs.length) by
    have := h bs 0 0 (by decide); simpa [getB] using this
  intro bs
  induction bs with
  | nil => intro m k hm; simpa using hm
  | cons b bs ih =>
    intro m k hm
    have hb := b.toNat_lt
    have := ih (m * 256 + b.toNat) (k + 1) (by rw [Nat.pow_succ]; omega)
    rw [List.foldl_cons, List.length_cons, show k + (bs.length + 1) = k + 1 + bs.length by omega]
    exact this
theorem getB_take_lt (bs : List UInt8) (k : Nat) (h : k ≤ 4) : getB (bs.take k) < 4294967296 :=
  Nat.lt_of_lt_of_le (getB_lt _) (Nat.le_trans (Nat.pow_le_pow_right (by decide) (Nat.le_trans (List.length_take_le _ _) h)) (by decide))
theorem getB_take_lt3 (bs : List UInt8) (k : Nat) (h : k ≤ 3) : getB (bs.take k) < 16777216 :=
  Nat.lt_of_lt_of_le (getB_lt _) (Nat.le_trans (Nat.pow_le_pow_right (by decide) (Nat.le_trans (List.length_take_le _ _) h)) (by decide))
/-- The program's step: shifted by eight bits, and the byte laid in. -/
theorem or_step (m : Nat) (b : Int) (hm : m < 16777216) (h0 : 0 ≤ b) (h1 : b ≤ 255) : bits .or .u32 ((m : Int) * 256) b = (m : Int) * 256 + b := by
  obtain ⟨b, rfl⟩ := Int.eq_ofNat_of_zero_le h0
  have h2 : b < 2 ^ 8 := by omega
  rw [show ((m : Int) * 256) = ((m * 256 : Nat) : Int) by omega, u32_or_nat _ _ (by omega) (by omega), show m * 256 = m <<< 8 by rw [Nat.shiftLeft_eq], ← Nat.shiftLeft_add_eq_or_of_lt h2, Nat.shiftLeft_eq]
  omega

theorem getB_put4 (v : Nat) (h : v < 4294967296) : getB (putB v 4) = v := by
  have e4 : putB v 4 = [UInt8.ofNat (v / 16777216 % 256), UInt8.ofNat (v / 65536 % 256), UInt8.ofNat (v / 256 % 256), UInt8.ofNat (v / 1 % 256)] := rfl
  rw [e4]
  simp only [getB, List.foldl_cons, List.foldl_nil, UInt8.toNat_ofNat']
  omega

end Go.Proofs.Ytflhoefocjmihaa

