/- Stores behind the draws of chapter 10: what can be read stays. -/
import Derived.Test.YtpbkncliepkhaaaDrawW
namespace Go.Proofs.Ytpbkncliepkhaaa
open Go.ChangeShapes Go.WideShapes Go.ChangeAt Go.RowKit

/-- What can be read is read behind a store elsewhere. -/
theorem rd_set {w : World} {a : Option Addr} {cap : Nat} {bs : List UInt8} (h : Rd w a cap bs) {d : Addr} (hd : ∀ x, a = some x → x.block ≠ d.block) (v : Value) : Rd (w.setCell d v) a cap bs := by
  obtain ⟨h1, h2, h3, h4⟩ := h
  refine ⟨h1, h2, h3, fun hp => ?_⟩
  obtain ⟨b, o, rfl, hc⟩ := h4 hp
  have hb : b ≠ d.block := hd _ rfl
  refine ⟨b, o, rfl, fun i hi => ?_⟩
  rw [World.cell?_of_block (w := w) (a := ⟨b, o + i, none⟩) (Below.heap_setCell _ _ _ _ hb)]
  exact hc i hi
/-- The answer's three cells are written last. -/
theorem bent_end3 {w v : World} {b : Nat} {p : Option Addr} {q : Nat} {cs : List UInt8} {t : Int} (hs : Src v b p q cs t) (hb : b < w.heap.size) (hg : w.grownBy v (some b)) (x y z : Value) :
    Src (((v.setCell ⟨w.heap.size, 0, none⟩ x).setCell ⟨w.heap.size, 1, none⟩ y).setCell ⟨w.heap.size, 2, none⟩ z) b p q cs t ∧ w.grownBy (((v.setCell ⟨w.heap.size, 0, none⟩ x).setCell ⟨w.heap.size, 1, none⟩ y).setCell ⟨w.heap.size, 2, none⟩ z) (some b) :=
  ⟨((hs.other (grownBy_set _ _ _ _) (fun k hk => by simp at hk; omega)).other (grownBy_set _ _ _ _) (fun k hk => by simp at hk; omega)).other (grownBy_set _ _ _ _) (fun k hk => by simp at hk; omega),
   grownBy_setNew (grownBy_setNew (grownBy_setNew hg (Nat.le_refl _)) (Nat.le_refl _)) (Nat.le_refl _)⟩
theorem msg_end {w v : World} {pu : Option Addr} {qu : Nat} {bs : List UInt8} (hb : Below w.heap.size w v) (r : Rd v pu qu bs) (hl : ∀ y, pu = some y → w.heap.size < y.block) (x y : Value) :
    Rd ((v.setCell ⟨w.heap.size, 0, none⟩ x).setCell ⟨w.heap.size, 1, none⟩ y) pu qu bs ∧ Below w.heap.size w ((v.setCell ⟨w.heap.size, 0, none⟩ x).setCell ⟨w.heap.size, 1, none⟩ y) := by
  have X1 := hb.grown (grownBy_set v w.heap.size 0 x) hb.size (fun k hk => by simp at hk; omega)
  refine ⟨rd_set (rd_set r (fun y hy => ?_) _) (fun y hy => ?_) _, X1.grown (grownBy_set _ w.heap.size 1 y) X1.size (fun k hk => by simp at hk; omega)⟩ <;> (have := hl y hy; show y.block ≠ w.heap.size; omega)
end Go.Proofs.Ytpbkncliepkhaaa

