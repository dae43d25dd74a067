/- Chapter 8 as plain functions, with no program in it: powers that are left by 65521; that each number from 1 to 65520 has 1 as its power 65520 (tried one by one, by the kernel); powers of sums, and of powers. No conditions but those in each line. -/
import Derived.Test.YtdolhafkihkocaaPut
namespace Go.Proofs.Ytdolhafkihkocaa

def powN (b e : Nat) : Nat := b ^ e % 65521
theorem powN_lt (b e : Nat) : powN b e < 65521 := Nat.mod_lt _ (by decide)
theorem powN_zero (b : Nat) : powN b 0 = 1 := by simp [powN]
theorem powN_add (b m n : Nat) : powN b m * powN b n % 65521 = powN b (m + n) := by unfold powN; rw [← Nat.mul_mod, ← Nat.pow_add]
theorem powN_mul (b m n : Nat) : powN (powN b m) n = powN b (m * n) := by unfold powN; rw [← Nat.pow_mod, ← Nat.pow_mul]
theorem powN_base (b e : Nat) : powN (b % 65521) e = powN b e := by unfold powN; rw [← Nat.pow_mod]
/-- One step of squaring: what is to be multiplied on stays. -/
theorem pow_even (o b e : Nat) (h : e % 2 = 0) : o * (b * b % 65521) ^ (e / 2) % 65521 = o * b ^ e % 65521 := by
  rw [Nat.mul_mod, ← Nat.pow_mod, ← Nat.mul_mod, ← Nat.pow_two, ← Nat.pow_mul, show 2 * (e / 2) = e by omega]
theorem pow_odd (o b e : Nat) (h : e % 2 = 1) : (o * b % 65521) * (b * b % 65521) ^ (e / 2) % 65521 = o * b ^ e % 65521 := by
  rw [Nat.mul_mod, Nat.mod_mod, ← Nat.pow_mod, ← Nat.mul_mod, ← Nat.pow_two, ← Nat.pow_mul, Nat.mul_assoc, ← Nat.pow_succ', show (2 * (e / 2)).succ = e by omega]

def st8 (r a : Nat) : Nat := Nat.mod (Nat.mul (Nat.mod (Nat.mul r r) 65521) a) 65521
def sq8 (r : Nat) : Nat := Nat.mod (Nat.mul r r) 65521
def fm8 (a : Nat) : Nat := sq8 (sq8 (sq8 (sq8 (st8 (st8 (st8 (st8 (st8 (st8 (st8 (st8 (st8 (st8 (st8 a a) a) a) a) a) a) a) a) a) a) a))))
def chk8 : Nat → Nat → Bool
  | 0, _ => true
  | n + 1, b => (fm8 (b + n) == 1) && chk8 n b
theorem st8_spec {r a k : Nat} (h : r % 65521 = a ^ k % 65521) : st8 r a % 65521 = a ^ (2 * k + 1) % 65521 := by
  show (r * r % 65521 * a % 65521) % 65521 = _
  have h1 : r * r % 65521 = a ^ (k + k) % 65521 := by rw [Nat.mul_mod, h, ← Nat.mul_mod, ← Nat.pow_add]
  rw [Nat.mod_mod, h1, Nat.mul_mod, Nat.mod_mod, ← Nat.mul_mod, ← Nat.pow_succ, show (k + k).succ = 2 * k + 1 by omega]
theorem sq8_spec {r a k : Nat} (h : r % 65521 = a ^ k % 65521) : sq8 r % 65521 = a ^ (2 * k) % 65521 := by
  show (r * r % 65521) % 65521 = _
  rw [Nat.mod_mod, Nat.mul_mod r r, h, ← Nat.mul_mod, ← Nat.pow_add, show k + k = 2 * k by omega]
theorem fm8_spec (a E : Nat) (hE : E = 65520) : fm8 a % 65521 = a ^ E % 65521 := by
  have h0 : a % 65521 = a ^ 1 % 65521 := by rw [Nat.pow_one]
  have h := sq8_spec (sq8_spec (sq8_spec (sq8_spec (st8_spec (st8_spec (st8_spec (st8_spec (st8_spec (st8_spec (st8_spec (st8_spec (st8_spec (st8_spec (st8_spec h0))))))))))))))
  have e : (2 * (2 * (2 * (2 * (2 * (2 * (2 * (2 * (2 * (2 * (2 * (2 * (2 * (2 * (2 * 1 + 1) + 1) + 1) + 1) + 1) + 1) + 1) + 1) + 1) + 1) + 1))))) = E := by rw [hE]
  rw [e] at h
  exact h
theorem chk8_at : ∀ {n b : Nat}, chk8 n b = true → ∀ k, k < n → fm8 (b + k) = 1
  | 0, _, _, _, hk => absurd hk (Nat.not_lt_zero _)
  | n + 1, b, h, k, hk => by
    simp only [chk8, Bool.and_eq_true, beq_iff_eq] at h
    by_cases e : k = n
    · subst e; exact h.1
    · exact chk8_at h.2 k (by omega)
set_option maxRecDepth 100000 in
theorem chk8_0 : chk8 4096 1 = true := by decide +kernel
set_option maxRecDepth 100000 in
theorem chk8_1 : chk8 4096 4097 = true := by decide +kernel
set_option maxRecDepth 100000 in
theorem chk8_2 : chk8 4096 8193 = true := by decide +kernel
set_option maxRecDepth 100000 in
theorem chk8_3 : chk8 4096 12289 = true := by decide +kernel
set_option maxRecDepth 100000 in
theorem chk8_4 : chk8 4096 16385 = true := by decide +kernel
set_option maxRecDepth 100000 in
theorem chk8_5 : chk8 4096 20481 = true := by decide +kernel
set_option maxRecDepth 100000 in
theorem chk8_6 : chk8 4096 24577 = true := by decide +kernel
set_option maxRecDepth 100000 in
theorem chk8_7 : chk8 4096 28673 = true := by decide +kernel
set_option maxRecDepth 100000 in
theorem chk8_8 : chk8 4096 32769 = true := by decide +kernel
set_option maxRecDepth 100000 in
theorem chk8_9 : chk8 4096 36865 = true := by decide +kernel
set_option maxRecDepth 100000 in
theorem chk8_10 : chk8 4096 40961 = true := by decide +kernel
set_option maxRecDepth 100000 in
theorem chk8_11 : chk8 4096 45057 = true := by decide +kernel
set_option maxRecDepth 100000 in
theorem chk8_12 : chk8 4096 49153 = true := by decide +kernel
set_option maxRecDepth 100000 in
theorem chk8_13 : chk8 4096 53249 = true := by decide +kernel
set_option maxRecDepth 100000 in
theorem chk8_14 : chk8 4096 57345 = true := by decide +kernel
set_option maxRecDepth 100000 in
theorem chk8_15 : chk8 4080 61441 = true := by decide +kernel
theorem fm8_one {b : Nat} (h1 : 1 ≤ b) (h2 : b ≤ 65520) : fm8 b = 1 := by
  have h : ∀ c, c < 16 → ∀ k, k < 4096 → 1 + 4096 * c + k ≤ 65520 → fm8 (1 + 4096 * c + k) = 1 := by
    intro c hc k hk hb
    match c, hc with
    | 0, _ => exact chk8_at chk8_0 k (by omega)
    | 1, _ => exact chk8_at chk8_1 k (by omega)
    | 2, _ => exact chk8_at chk8_2 k (by omega)
    | 3, _ => exact chk8_at chk8_3 k (by omega)
    | 4, _ => exact chk8_at chk8_4 k (by omega)
    | 5, _ => exact chk8_at chk8_5 k (by omega)
    | 6, _ => exact chk8_at chk8_6 k (by omega)
    | 7, _ => exact chk8_at chk8_7 k (by omega)
    | 8, _ => exact chk8_at chk8_8 k (by omega)
    | 9, _ => exact chk8_at chk8_9 k (by omega)
    | 10, _ => exact chk8_at chk8_10 k (by omega)
    | 11, _ => exact chk8_at chk8_11 k (by omega)
    | 12, _ => exact chk8_at chk8_12 k (by omega)
    | 13, _ => exact chk8_at chk8_13 k (by omega)
    | 14, _ => exact chk8_at chk8_14 k (by omega)
    | 15, _ => exact chk8_at chk8_15 k (by omega)
    | n + 16, hc => exact absurd hc (by omega)
  have := h ((b - 1) / 4096) (by omega) ((b - 1) % 4096) (Nat.mod_lt _ (by decide)) (by omega)
  rw [show 1 + 4096 * ((b - 1) / 4096) + (b - 1) % 4096 = b by omega] at this
  exact this
theorem fermat {b E : Nat} (h1 : 1 ≤ b) (h2 : b ≤ 65520) (hE : E = 65520) : powN b E = 1 := by
  have h := fm8_spec b E hE
  rw [fm8_one h1 h2] at h
  exact h.symm
theorem powN_pos {b e : Nat} (h1 : 1 ≤ b) (h2 : b ≤ 65520) (he : e ≤ 65521) : 1 ≤ powN b e := by
  obtain ⟨E, hE⟩ : ∃ E : Nat, E = 65520 := ⟨_, rfl⟩
  by_cases h3 : e ≤ E
  · have h := powN_add b e (E - e)
    rw [show e + (E - e) = E by omega, fermat h1 h2 hE] at h
    rcases Nat.eq_zero_or_pos (powN b e) with h0 | h0
    · rw [h0] at h; simp at h
    · exact h0
  · have e1 : e = E + 1 := by omega
    have h := powN_add b E 1
    rw [fermat h1 h2 hE, Nat.one_mul, show powN b 1 = b by simp [powN]; omega, ← e1, Nat.mod_eq_of_lt (by omega)] at h
    rw [← h]
    exact h1
theorem powN_comm (g a b : Nat) : powN (powN g a) b = powN (powN g b) a := by rw [powN_mul, powN_mul, Nat.mul_comm]
end Go.Proofs.Ytdolhafkihkocaa
