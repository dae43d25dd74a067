/- Chapter 13 of the specification: the digest that is signed (l13Digest). For right arguments. -/
import Derived.Test.YtdbpnibcblelbabJoint10
import Derived.Test.YtdbpnibcblelbabJoinI
import Derived.Test.YtdbpnibcblelbabPad
import Derived.Test.YtdbpnibcblelbabJoint8
import Derived.Test.YtdbpnibcblelbabWireB
import Derived.Test.YtdbpnibcblelbabSignsK
import Derived.Test.YtdbpnibcblelbabSchS
import Derived.Test.YtdbpnibcblelbabJoint4
import Derived.Test.YtdbpnibcblelbabInts
namespace Go.Proofs.Ytdbpnibcblelbab
open Go.RowKit

theorem rdl_four (w : World) (x y z v : Pc) (t : TypeId) (hx : Rd w x.p x.q x.bs) (hy : Rd w y.p y.q y.bs) (hz : Rd w z.p z.q z.bs) (hv : Rd w v.p v.q v.bs) :
    RdL bytC (w.alloc (.cells #[x.val, y.val, z.val, v.val] t)) (some ⟨w.heap.size, 0, none⟩) 4 [x.bs, y.bs, z.bs, v.bs] := by
  have hb := alloc_below w (.cells #[x.val, y.val, z.val, v.val] t)
  have A := Arr.new w [x.val, y.val, z.val, v.val] t
  refine ⟨by simp, by unfold maxLen; decide, (fun e => by cases e), fun _ => ⟨w.heap.size, 0, rfl, fun i a hi => ?_⟩⟩
  match i, hi with
  | 0, hi => cases hi; exact ⟨[x.val], ⟨x.p, x.q, rfl, hx.keep hb⟩, fun j u hj => by
      match j, hj with
      | 0, hj => cases hj; exact A.cell 0⟩
  | 1, hi => cases hi; exact ⟨[y.val], ⟨y.p, y.q, rfl, hy.keep hb⟩, fun j u hj => by
      match j, hj with
      | 0, hj => cases hj; exact A.cell 1⟩
  | 2, hi => cases hi; exact ⟨[z.val], ⟨z.p, z.q, rfl, hz.keep hb⟩, fun j u hj => by
      match j, hj with
      | 0, hj => cases hj; exact A.cell 2⟩
  | 3, hi => cases hi; exact ⟨[v.val], ⟨v.p, v.q, rfl, hv.keep hb⟩, fun j u hj => by
      match j, hj with
      | 0, hj => cases hj; exact A.cell 3⟩
end Go.Proofs.Ytdbpnibcblelbab

/- Chapter 13 of the specification: faults (l13Fault), AuthKey, AuthDigest, MakeAuth: code and bytes at every argument. What was there stays. -/
namespace Go.Proofs.Ytdbpnibcblelbab
open Go.RowKit

theorem akC_len {x : List UInt8} {r : Int} (h : akC x r = 0) : x.length = 32 := by
  unfold akC at h
  cases h1 : is32 x
  · rw [h1] at h; cases h
  · simpa [is32] using h1
end Go.Proofs.Ytdbpnibcblelbab

/- The contracts of signatures in the specification that only read: l12Signs, SignsFault, l12Leaked, l12Check, CheckSign, at every argument. What was there stays. -/
namespace Go.Proofs.Ytdbpnibcblelbab
open Go.ChangeShapes Go.WideShapes Go.ChangeAt Go.RowKit

theorem atI_some {l : List Int} {k : Nat} {a : Int} (h : l[k]? = some a) : atI l k = a := by unfold atI; rw [List.getD_eq_getElem?_getD, h]; rfl
theorem lkB_at {l : List Int} {k : Nat} {id : Int} (h : l[k]? = some id) : lkB l id = true := by
  simp only [lkB, List.any_eq_true]; exact ⟨id, List.mem_of_getElem? h, by simp⟩
end Go.Proofs.Ytdbpnibcblelbab

