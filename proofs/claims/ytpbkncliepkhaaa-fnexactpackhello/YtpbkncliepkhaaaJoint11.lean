/- Chapter 8 as plain functions, with no program in it: powers that are left by 65521; that each number from 1 to 65520 has 1 as its power 65520 (tried one by one, by the kernel); powers of sums, and of powers. No conditions but those in each line. -/
import Derived.Test.YtpbkncliepkhaaaJoint1
import Derived.Test.YtpbkncliepkhaaaCopy
import Derived.Test.YtpbkncliepkhaaaJoint3
import Derived.Test.YtpbkncliepkhaaaJoint5
import Derived.Test.YtpbkncliepkhaaaJoint4
import Derived.Test.YtpbkncliepkhaaaJoint8
namespace Go.Proofs.Ytpbkncliepkhaaa

def powN (b e : Nat) : Nat := b ^ e % 65521
theorem powN_lt (b e : Nat) : powN b e < 65521 := Nat.mod_lt _ (by decide)
theorem powN_zero (b : Nat) : powN b 0 = 1 := by simp [powN]
theorem powN_add (b m n : Nat) : powN b m * powN b n % 65521 = powN b (m + n) := by unfold powN; rw [← Nat.mul_mod, ← Nat.pow_add]
theorem powN_mul (b m n : Nat) : powN (powN b m) n = powN b (m * n) := by unfold powN; rw [← Nat.pow_mod, ← Nat.pow_mul]
theorem powN_base (b e : Nat) : powN (b % 65521) e = powN b e := by unfold powN; rw [← Nat.pow_mod]
/-- One step of squaring: what is to be multiplied on stays. -/
theorem pow_even (o b e : Nat) (h : e % 2 = 0) : o * (b * b % 65521) ^ (e / 2) % 65521 = o * b ^ e % 65521 := by
  rw [Nat.mul_mod, ← Nat.pow_mod, ← Nat.mul_mod, ← Nat.pow_two, ← Nat.pow_mul, show 2 * (e / 2) = e by omega]
theorem pow_odd (o b e : Nat) (h : e % 2 = 1) : (o * b % 65521) * (b * b % 65521) ^ (e / 2) % 65521 = o * b ^ e % 65521 := by
  rw [Nat.mul_mod, Nat.mod_mod, ← Nat.pow_mod, ← Nat.mul_mod, ← Nat.pow_two, ← Nat.pow_mul, Nat.mul_assoc, ← Nat.pow_succ', show (2 * (e / 2)).succ = e by omega]

def st8 (r a : Nat) : Nat := Nat.mod (Nat.mul (Nat.mod (Nat.mul r r) 65521) a) 65521
def sq8 (r : Nat) : Nat := Nat.mod (Nat.mul r r) 65521
def fm8 (a : Nat) : Nat := sq8 (sq8 (sq8 (sq8 (st8 (st8 (st8 (st8 (st8 (st8 (st8 (st8 (st8 (st8 (st8 a a) a) a) a) a) a) a) a) a) a) a))))
def chk8 : Nat → Nat → Bool
  | 0, _ => true
  | n + 1, b => (fm8 (b + n) == 1) && chk8 n b
theorem st8_spec {r a k : Nat} (h : r % 65521 = a ^ k % 65521) : st8 r a % 65521 = a ^ (2 * k + 1) % 65521 := by
  show (r * r % 65521 * a % 65521) % 65521 = _
  have h1 : r * r % 65521 = a ^ (k + k) % 65521 := by rw [Nat.mul_mod, h, ← Nat.mul_mod, ← Nat.pow_add]
  rw [Nat.mod_mod, h1, Nat.mul_mod, Nat.mod_mod, ← Nat.mul_mod, ← Nat.pow_succ, show (k + k).succ = 2 * k + 1 by omega]
theorem sq8_spec {r a k : Nat} (h : r % 65521 = a ^ k % 65521) : sq8 r % 65521 = a ^ (2 * k) % 65521 := by
  show (r * r % 65521) % 65521 = _
  rw [Nat.mod_mod, Nat.mul_mod r r, h, ← Nat.mul_mod, ← Nat.pow_add, show k + k = 2 * k by omega]
theorem fm8_spec (a E : Nat) (hE : E = 65520) : fm8 a % 65521 = a ^ E % 65521 := by
  have h0 : a % 65521 = a ^ 1 % 65521 := by rw [Nat.pow_one]
  have h := sq8_spec (sq8_spec (sq8_spec (sq8_spec (st8_spec (st8_spec (st8_spec (st8_spec (st8_spec (st8_spec (st8_spec (st8_spec (st8_spec (st8_spec (st8_spec h0))))))))))))))
  have e : (2 * (2 * (2 * (2 * (2 * (2 * (2 * (2 * (2 * (2 * (2 * (2 * (2 * (2 * (2 * 1 + 1) + 1) + 1) + 1) + 1) + 1) + 1) + 1) + 1) + 1) + 1))))) = E := by rw [hE]
  rw [e] at h
  exact h
theorem chk8_at : ∀ {n b : Nat}, chk8 n b = true → ∀ k, k < n → fm8 (b + k) = 1
  | 0, _, _, _, hk => absurd hk (Nat.not_lt_zero _)
  | n + 1, b, h, k, hk => by
    simp only [chk8, Bool.and_eq_true, beq_iff_eq] at h
    by_cases e : k = n
    · subst e; exact h.1
    · exact chk8_at h.2 k (by omega)
set_option maxRecDepth 100000 in
theorem chk8_0 : chk8 4096 1 = true := by decide +kernel
set_option maxRecDepth 100000 in
theorem chk8_1 : chk8 4096 4097 = true := by decide +kernel
set_option maxRecDepth 100000 in
theorem chk8_2 : chk8 4096 8193 = true := by decide +kernel
set_option maxRecDepth 100000 in
theorem chk8_3 : chk8 4096 12289 = true := by decide +kernel
set_option maxRecDepth 100000 in
theorem chk8_4 : chk8 4096 16385 = true := by decide +kernel
set_option maxRecDepth 100000 in
theorem chk8_5 : chk8 4096 20481 = true := by decide +kernel
set_option maxRecDepth 100000 in
theorem chk8_6 : chk8 4096 24577 = true := by decide +kernel
set_option maxRecDepth 100000 in
theorem chk8_7 : chk8 4096 28673 = true := by decide +kernel
set_option maxRecDepth 100000 in
theorem chk8_8 : chk8 4096 32769 = true := by decide +kernel
set_option maxRecDepth 100000 in
theorem chk8_9 : chk8 4096 36865 = true := by decide +kernel
set_option maxRecDepth 100000 in
theorem chk8_10 : chk8 4096 40961 = true := by decide +kernel
set_option maxRecDepth 100000 in
theorem chk8_11 : chk8 4096 45057 = true := by decide +kernel
set_option maxRecDepth 100000 in
theorem chk8_12 : chk8 4096 49153 = true := by decide +kernel
set_option maxRecDepth 100000 in
theorem chk8_13 : chk8 4096 53249 = true := by decide +kernel
set_option maxRecDepth 100000 in
theorem chk8_14 : chk8 4096 57345 = true := by decide +kernel
set_option maxRecDepth 100000 in
theorem chk8_15 : chk8 4080 61441 = true := by decide +kernel
theorem fm8_one {b : Nat} (h1 : 1 ≤ b) (h2 : b ≤ 65520) : fm8 b = 1 := by
  have h : ∀ c, c < 16 → ∀ k, k < 4096 → 1 + 4096 * c + k ≤ 65520 → fm8 (1 + 4096 * c + k) = 1 := by
    intro c hc k hk hb
    match c, hc with
    | 0, _ => exact chk8_at chk8_0 k (by omega)
    | 1, _ => exact chk8_at chk8_1 k (by omega)
    | 2, _ => exact chk8_at chk8_2 k (by omega)
    | 3, _ => exact chk8_at chk8_3 k (by omega)
    | 4, _ => exact chk8_at chk8_4 k (by omega)
    | 5, _ => exact chk8_at chk8_5 k (by omega)
    | 6, _ => exact chk8_at chk8_6 k (by omega)
    | 7, _ => exact chk8_at chk8_7 k (by omega)
    | 8, _ => exact chk8_at chk8_8 k (by omega)
    | 9, _ => exact chk8_at chk8_9 k (by omega)
    | 10, _ => exact chk8_at chk8_10 k (by omega)
    | 11, _ => exact chk8_at chk8_11 k (by omega)
    | 12, _ => exact chk8_at chk8_12 k (by omega)
    | 13, _ => exact chk8_at chk8_13 k (by omega)
    | 14, _ => exact chk8_at chk8_14 k (by omega)
    | 15, _ => exact chk8_at chk8_15 k (by omega)
    | n + 16, hc => exact absurd hc (by omega)
  have := h ((b - 1) / 4096) (by omega) ((b - 1) % 4096) (Nat.mod_lt _ (by decide)) (by omega)
  rw [show 1 + 4096 * ((b - 1) / 4096) + (b - 1) % 4096 = b by omega] at this
  exact this
theorem fermat {b E : Nat} (h1 : 1 ≤ b) (h2 : b ≤ 65520) (hE : E = 65520) : powN b E = 1 := by
  have h := fm8_spec b E hE
  rw [fm8_one h1 h2] at h
  exact h.symm
theorem powN_pos {b e : Nat} (h1 : 1 ≤ b) (h2 : b ≤ 65520) (he : e ≤ 65521) : 1 ≤ powN b e := by
  obtain ⟨E, hE⟩ : ∃ E : Nat, E = 65520 := ⟨_, rfl⟩
  by_cases h3 : e ≤ E
  · have h := powN_add b e (E - e)
    rw [show e + (E - e) = E by omega, fermat h1 h2 hE] at h
    rcases Nat.eq_zero_or_pos (powN b e) with h0 | h0
    · rw [h0] at h; simp at h
    · exact h0
  · have e1 : e = E + 1 := by omega
    have h := powN_add b E 1
    rw [fermat h1 h2 hE, Nat.one_mul, show powN b 1 = b by simp [powN]; omega, ← e1, Nat.mod_eq_of_lt (by omega)] at h
    rw [← h]
    exact h1
theorem powN_comm (g a b : Nat) : powN (powN g a) b = powN (powN g b) a := by rw [powN_mul, powN_mul, Nat.mul_comm]
end Go.Proofs.Ytpbkncliepkhaaa

/- The contracts of chapter 8's functions in the specification, at every argument: code and number, or bytes. -/
namespace Go.Proofs.Ytpbkncliepkhaaa
open Go.ChangeShapes Go.WideShapes Go.ChangeAt Go.RowKit

def poC (b e : Int) : Int := if inB b 1 65520 && inB e 0 65521 then 0 else 3
def poV (b e : Int) : Int := if poC b e = 0 then (powN b.toNat e.toNat : Nat) else 0
def shC (s : Int) : Int := if inB s 1 65519 then 0 else 3
def shV (s : Int) : Int := if shC s = 0 then (powN 17 s.toNat : Nat) else 0
def sdC (s b : Int) : Int := if inB s 1 65519 && inB b 1 65520 then 0 else 3
def sdV (s b : Int) : Int := if sdC s b = 0 then (powN b.toNat s.toNat : Nat) else 0
def shbC (v : Int) : Int := if inB v 1 65520 then 0 else 3
def shbL (v : Int) : List UInt8 := if shbC v = 0 then putB v.toNat 2 else []
def bsC (d : List UInt8) : Int := if d.length = 2 then (if inB (getB d : Nat) 1 65520 then 0 else 3) else 5
def bsV (d : List UInt8) : Int := if bsC d = 0 then (getB d : Nat) else 0
theorem shbL_len (v : Int) : (shbL v).length ≤ 1048576 := by unfold shbL; split; rw [putB_len]; decide; simp
theorem nat_of_in {v lo hi : Int} (h : inB v lo hi = true) (hl : 0 ≤ lo) : ∃ n : Nat, v = n ∧ lo ≤ n ∧ (n : Int) ≤ hi := by
  have h2 : lo ≤ v ∧ v ≤ hi := by simpa [inB] using h
  exact ⟨v.toNat, by omega, by omega, by omega⟩

theorem l8Element_c (v : Int) (w : World) : Calls Try.prog 74 #[.int .i64 v] w fun e w' => e = .returned (.bool (inB v 1 65520)) ∧ w' = w := by
  go_enter Try.func74, Try.ntmps74
  go_wp2_with fail
  refine (l1In_c v 1 65520 _).mono ?_
  rintro e w1 ⟨rfl, rfl⟩
  go_wp2
  go_ret
  exact ⟨rfl, rfl⟩


end Go.Proofs.Ytpbkncliepkhaaa

/- The contracts of the laws' helpers on lists of bytes, and on answers that hold such a list: toByteSS, szByteSS, eqByteSS, markByteSS, heldByteSS; eqBlocksResult, markBlocksResult, heldBlocksResult. -/
namespace Go.Proofs.Ytpbkncliepkhaaa
open Go.ChangeShapes Go.WideShapes Go.ChangeAt Go.RowKit

abbrev BlkD := List UInt8
theorem blk_rep {w : World} {a : BlkD} {vs : List Value} (h : bytC.rep w a vs) : ∃ p q, vs = [.slice p a.length q] ∧ Rd w p q a := h
theorem blk_own {w : World} {B : Nat} {a : BlkD} {vs : List Value} {fp : List Nat} (h : bytC.own w B a vs fp) : ∃ v, vs = [v] ∧ Own w B v a ∧ fp = v.ownBlock.toList := h
theorem blk_own_mk {w : World} {B : Nat} {a : BlkD} {v : Value} (o : Own w B v a) : bytC.own w B a [v] v.ownBlock.toList := ⟨v, rfl, o, rfl⟩
def sumB (l : List BlkD) : Nat := (l.map List.length).sum
def bulkB (l : List BlkD) : Nat := sumB l + l.length
theorem sumB_take {l : List BlkD} {k : Nat} {a : BlkD} (h : l[k]? = some a) : sumB (l.take (k + 1)) = sumB (l.take k) + a.length := by
  rw [List.take_add_one, h]; simp [sumB]
theorem sumB_append (l r : List BlkD) : sumB (l ++ r) = sumB l + sumB r := by simp [sumB]
theorem sumB_le (l : List BlkD) (k : Nat) : sumB (l.take k) ≤ sumB l := by
  conv => rhs; rw [← List.take_append_drop k l, sumB_append]
  omega
theorem sumB_at {l : List BlkD} {k : Nat} {a : BlkD} (h : l[k]? = some a) : a.length ≤ sumB l := by
  have h1 := sumB_take h
  have h2 := sumB_le l (k + 1)
  omega

theorem infoBlk : (Try.prog.info? 22).map (fun i => (i.zero, i.size, i.bytes)) = some (some (.slice none 0 0), 1, 24) := by kernel_rfl



def mkB : List BlkD → Nat → List BlkD
  | [], _ => []
  | a :: l, m => marks m a.length :: mkB l (m + a.length)
theorem mkB_append : ∀ (l r : List BlkD) (m : Nat), mkB (l ++ r) m = mkB l m ++ mkB r (m + sumB l)
  | [], r, m => by simp [mkB, sumB]
  | a :: l, r, m => by
    rw [List.cons_append, mkB, mkB, mkB_append l r, List.cons_append, show m + a.length + sumB l = m + sumB (a :: l) by simp [sumB]; omega]
theorem mkB_len : ∀ (l : List BlkD) (m : Nat), (mkB l m).length = l.length
  | [], _ => rfl
  | a :: l, m => by rw [mkB, List.length_cons, mkB_len l, List.length_cons]
theorem mkB_take {l : List BlkD} {k : Nat} {a : BlkD} (h : l[k]? = some a) (m : Nat) : mkB (l.take (k + 1)) m = mkB (l.take k) m ++ [marks (m + sumB (l.take k)) a.length] := by
  rw [List.take_add_one, h, mkB_append]; rfl
theorem mkB_at {l : List BlkD} {k : Nat} {a : BlkD} (h : l[k]? = some a) (m : Nat) : (mkB l m)[k]? = some (marks (m + sumB (l.take k)) a.length) := by
  have hk := (List.getElem?_eq_some_iff.1 h).1
  conv => lhs; rw [← List.take_append_drop k l, drop_at h, mkB_append]
  rw [List.getElem?_append_right (by rw [mkB_len, List.length_take]; omega), mkB_len, List.length_take, Nat.min_eq_left (by omega), Nat.sub_self]
  rfl



end Go.Proofs.Ytpbkncliepkhaaa

