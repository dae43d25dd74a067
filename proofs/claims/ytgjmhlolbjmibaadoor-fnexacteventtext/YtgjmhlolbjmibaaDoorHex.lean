/- The digits of bytes, with no program in it. -/
import Derived.Test.YtgjmhlolbjmibaaDoorStr
namespace Go.Proofs.YtgjmhlolbjmibaaDoor
open Go.RowKit

def hexAll : List UInt8 := [48, 49, 50, 51, 52, 53, 54, 55, 56, 57, 97, 98, 99, 100, 101, 102]
def hexD (v : Int) : UInt8 := hexAll.getD v.toNat 0
def hexL (bs : List UInt8) : List UInt8 := bs.flatMap fun b => [hexD (b.toNat / 16), hexD (b.toNat % 16)]
theorem hexL_len (bs : List UInt8) : (hexL bs).length = 2 * bs.length := by
  induction bs with
  | nil => rfl
  | cons b bs ih => simp only [hexL, List.flatMap_cons, List.length_append, List.length_cons, List.length_nil] at ih ⊢; omega
theorem hexL_take (bs : List UInt8) (k : Nat) (h : k < bs.length) : hexL (bs.take (k + 1)) = hexL (bs.take k) ++ [hexD (at8 bs k / 16)] ++ [hexD (at8 bs k % 16)] := by
  rw [List.take_succ_eq_append_getElem h, at8_get h]
  unfold hexL
  rw [List.flatMap_append, List.append_assoc]
  rfl

theorem run_add {P : Program} (x y : List UInt8) (h : x.length + y.length ≤ 9223372036854775807) (w : World) :
    (Op.stringOp .add (strB x) (strB y)).run P w = .ok (.string (strB (x ++ y))) w := by
  rw [run_string_add_sum w _ _ (by rw [strB_size, strB_size]; exact h)]
  unfold strB
  rw [ByteArray.mk_append_mk]

theorem cell_one_new (w : World) (a : Value) (t : TypeId) : ∀ j u, [a][j]? = some u → (w.alloc (.cells #[a] t)).cell? ((⟨w.heap.size, 0, none⟩ : Addr).add j) = some u := by
  intro j u hj
  match j, hj with
  | 0, hj => simp at hj; subst hj; simp [Addr.add]
  | j + 1, hj => simp at hj
theorem own_two {w : World} {B : Nat} {v : Value} {x : List UInt8} {a b : UInt8} (h : w.ownsRow B 5 1 v (x.length + 2) (x.map u8v ++ [.int .u8 a.toNat, .int .u8 b.toNat])) : Own w B v (x ++ [a] ++ [b]) := by
  unfold Own
  rw [show (x ++ [a] ++ [b]).length = x.length + 2 by simp, show (x ++ [a] ++ [b]).map u8v = x.map u8v ++ [.int .u8 a.toNat, .int .u8 b.toNat] by simp [u8v]]
  exact h
theorem own_one {w : World} {B : Nat} {v : Value} {x : List UInt8} {a : UInt8} (h : w.ownsRow B 5 1 v (x.length + 1) (x.map u8v ++ [.int .u8 a.toNat])) : Own w B v (x ++ [a]) := by
  unfold Own
  rw [show (x ++ [a]).length = x.length + 1 by simp, show (x ++ [a]).map u8v = x.map u8v ++ [.int .u8 a.toNat] by simp [u8v]]
  exact h

end Go.Proofs.YtgjmhlolbjmibaaDoor
