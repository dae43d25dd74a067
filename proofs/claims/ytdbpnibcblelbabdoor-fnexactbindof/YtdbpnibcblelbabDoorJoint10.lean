/- Chapter 13 of the specification: what is asked (l13Role, l13Asked, l13Context) and the key (l13Key), AuthKey. No condition but lengths within the model's. -/
import Derived.Test.YtdbpnibcblelbabDoorSchS
import Derived.Test.YtdbpnibcblelbabDoorAuth
import Derived.Test.YtdbpnibcblelbabDoorCert
import Derived.Test.YtdbpnibcblelbabDoorJoint4
import Derived.Test.YtdbpnibcblelbabDoorJoint3
import Derived.Test.YtdbpnibcblelbabDoorPad
import Derived.Test.YtdbpnibcblelbabDoorPick
import Derived.Test.YtdbpnibcblelbabDoorJoinI
import Derived.Test.YtdbpnibcblelbabDoorMacS
import Derived.Test.YtdbpnibcblelbabDoorJoint9
namespace Go.Proofs.YtdbpnibcblelbabDoor
open Go.RowKit

end Go.Proofs.YtdbpnibcblelbabDoor

/- The contracts of the certificates in the specification: l12One, l12At, l12Fault, CertsFault, l12Pack, PackCert, l12Unpack, UnpackCert, LookCert, at every argument. What was there stays. -/
namespace Go.Proofs.YtdbpnibcblelbabDoor
open Go.ChangeShapes Go.WideShapes Go.ChangeAt Go.RowKit

/-- Where the first one of that number stands; -1: nowhere. -/
def ixC (l : List CertD) (id : Int) : Int := if hasC l id then (l.findIdx fun c => c.1 == id : Nat) else -1
theorem ixC_at {l : List CertD} {k : Nat} {a : CertD} {id : Int} (h : l[k]? = some a) (hn : hasC (l.take k) id = false) (he : a.1 = id) : ixC l id = k := by
  unfold ixC
  rw [if_pos (hasC_at h he)]
  congr 1
  obtain ⟨hk, ha⟩ := List.getElem?_eq_some_iff.1 h
  refine (List.findIdx_eq hk).2 ⟨by rw [ha]; simpa using he, fun j hj => ?_⟩
  simp only [hasC, List.any_eq_false] at hn
  have := hn l[j] (by rw [List.mem_take_iff_getElem]; exact ⟨j, by omega, rfl⟩)
  simpa using this
theorem ixC_none {l : List CertD} {id : Int} (h : hasC l id = false) : ixC l id = -1 := by unfold ixC; rw [h]; rfl
theorem ixC_some {l : List CertD} {id : Int} (h : hasC l id = true) : ∃ k : Nat, ixC l id = (k : Int) ∧ l[k]? = some (foC l id) ∧ (foC l id).1 = id := by
  refine ⟨l.findIdx fun c => c.1 == id, by unfold ixC; rw [if_pos h], ?_⟩
  simp only [hasC, List.any_eq_true] at h
  have hlt : l.findIdx (fun c => c.1 == id) < l.length := List.findIdx_lt_length.2 h
  have hp := List.findIdx_getElem (w := hlt)
  have e : foC l id = l[l.findIdx (fun c => c.1 == id)] := by
    unfold foC atC
    rw [List.find?_eq_getElem?_findIdx, List.getElem?_eq_getElem hlt]
    rfl
  rw [e]
  exact ⟨List.getElem?_eq_getElem hlt, by simpa using hp⟩
theorem ixC_self {l : List CertD} {k : Nat} {a : CertD} (h : l[k]? = some a) : (ixC l a.1 = (k : Int)) ↔ hasC (l.take k) a.1 = false := by
  constructor
  · intro he
    cases hh : hasC (l.take k) a.1
    · rfl
    · exfalso
      simp only [hasC, List.any_eq_true] at hh
      obtain ⟨x, hx, hx2⟩ := hh
      rw [List.mem_take_iff_getElem] at hx
      obtain ⟨j, hj, rfl⟩ := hx
      unfold ixC at he
      rw [if_pos (hasC_at h rfl)] at he
      have he2 : (l.findIdx fun c => c.1 == a.1) = k := by omega
      have := List.not_of_lt_findIdx (xs := l) (p := fun c => c.1 == a.1) (i := j) (by omega)
      rw [hx2] at this; cases this
  · intro hn; exact ixC_at h hn rfl


theorem bytesLit_own (w : World) (bs : List UInt8) (B : Nat) (hB : B ≤ w.heap.size) (hl : bs.length ≤ 1000) : Own (w.alloc (.cells (bs.map u8v).toArray 5)) B (.slice (some ⟨w.heap.size, 0, none⟩) bs.length bs.length) bs := by
  have h := World.ownsRow_lit (base := B) (e := 5) (size := 1) w (bs.map u8v).toArray bs.length hB (by unfold maxLen; omega) (by simp)
  exact h
theorem u8v_mod {a : Int} (h : 0 ≤ a) : u8v (UInt8.ofNat a.toNat) = .int .u8 (a % 256) := by
  unfold u8v; rw [UInt8.toNat_ofNat']; congr 1; omega
theorem pcL_put {c : CertD} : pcL c = [UInt8.ofNat c.1.toNat, UInt8.ofNat c.2.1.toNat] ++ putB c.2.2.toNat 2 := by
  have q : ∀ (m n : Nat), m % 256 = n % 256 → UInt8.ofNat m = UInt8.ofNat n := fun m n h => by
    apply UInt8.toNat_inj.1; rw [UInt8.toNat_ofNat', UInt8.toNat_ofNat']; exact h
  simp only [pcL, putB, List.cons_append, List.nil_append, List.cons.injEq, true_and, and_true]
  exact ⟨q _ _ (by omega), q _ _ (by omega)⟩
end Go.Proofs.YtdbpnibcblelbabDoor

/- Chapter 13 of the specification: the digest that is signed (l13Digest). For right arguments. -/
namespace Go.Proofs.YtdbpnibcblelbabDoor
open Go.RowKit

theorem rdl_four (w : World) (x y z v : Pc) (t : TypeId) (hx : Rd w x.p x.q x.bs) (hy : Rd w y.p y.q y.bs) (hz : Rd w z.p z.q z.bs) (hv : Rd w v.p v.q v.bs) :
    RdL bytC (w.alloc (.cells #[x.val, y.val, z.val, v.val] t)) (some ⟨w.heap.size, 0, none⟩) 4 [x.bs, y.bs, z.bs, v.bs] := by
  have hb := alloc_below w (.cells #[x.val, y.val, z.val, v.val] t)
  have A := Arr.new w [x.val, y.val, z.val, v.val] t
  refine ⟨by simp, by unfold maxLen; decide, (fun e => by cases e), fun _ => ⟨w.heap.size, 0, rfl, fun i a hi => ?_⟩⟩
  match i, hi with
  | 0, hi => cases hi; exact ⟨[x.val], ⟨x.p, x.q, rfl, hx.keep hb⟩, fun j u hj => by
      match j, hj with
      | 0, hj => cases hj; exact A.cell 0⟩
  | 1, hi => cases hi; exact ⟨[y.val], ⟨y.p, y.q, rfl, hy.keep hb⟩, fun j u hj => by
      match j, hj with
      | 0, hj => cases hj; exact A.cell 1⟩
  | 2, hi => cases hi; exact ⟨[z.val], ⟨z.p, z.q, rfl, hz.keep hb⟩, fun j u hj => by
      match j, hj with
      | 0, hj => cases hj; exact A.cell 2⟩
  | 3, hi => cases hi; exact ⟨[v.val], ⟨v.p, v.q, rfl, hv.keep hb⟩, fun j u hj => by
      match j, hj with
      | 0, hj => cases hj; exact A.cell 3⟩
end Go.Proofs.YtdbpnibcblelbabDoor

/- Chapter 13 of the specification: faults (l13Fault), AuthKey, AuthDigest, MakeAuth: code and bytes at every argument. What was there stays. -/
namespace Go.Proofs.YtdbpnibcblelbabDoor
open Go.RowKit

theorem akC_len {x : List UInt8} {r : Int} (h : akC x r = 0) : x.length = 32 := by
  unfold akC at h
  cases h1 : is32 x
  · rw [h1] at h; cases h
  · simpa [is32] using h1
end Go.Proofs.YtdbpnibcblelbabDoor

