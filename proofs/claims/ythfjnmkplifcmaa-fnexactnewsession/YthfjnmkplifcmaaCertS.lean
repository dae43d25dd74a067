/- The contracts of the certificates in the specification: l12One, l12At, l12Fault, CertsFault, l12Pack, PackCert, l12Unpack, UnpackCert, LookCert, at every argument. What was there stays. -/
import Derived.Test.YthfjnmkplifcmaaCert
import Derived.Test.YthfjnmkplifcmaaJoint4
import Derived.Test.YthfjnmkplifcmaaJoint2
import Derived.Test.YthfjnmkplifcmaaPad
import Derived.Test.YthfjnmkplifcmaaPick
namespace Go.Proofs.Ythfjnmkplifcmaa
open Go.ChangeShapes Go.WideShapes Go.ChangeAt Go.RowKit

/-- Where the first one of that number stands; -1: nowhere. -/
def ixC (l : List CertD) (id : Int) : Int := if hasC l id then (l.findIdx fun c => c.1 == id : Nat) else -1
theorem ixC_at {l : List CertD} {k : Nat} {a : CertD} {id : Int} (h : l[k]? = some a) (hn : hasC (l.take k) id = false) (he : a.1 = id) : ixC l id = k := by
  unfold ixC
  rw [if_pos (hasC_at h he)]
  congr 1
  obtain ⟨hk, ha⟩ := List.getElem?_eq_some_iff.1 h
  refine (List.findIdx_eq hk).2 ⟨by rw [ha]; simpa using he, fun j hj => ?_⟩
  simp only [hasC, List.any_eq_false] at hn
  have := hn l[j] (by rw [List.mem_take_iff_getElem]; exact ⟨j, by omega, rfl⟩)
  simpa using this
theorem ixC_none {l : List CertD} {id : Int} (h : hasC l id = false) : ixC l id = -1 := by unfold ixC; rw [h]; rfl
theorem ixC_some {l : List CertD} {id : Int} (h : hasC l id = true) : ∃ k : Nat, ixC l id = (k : Int) ∧ l[k]? = some (foC l id) ∧ (foC l id).1 = id := by
  refine ⟨l.findIdx fun c => c.1 == id, by unfold ixC; rw [if_pos h], ?_⟩
  simp only [hasC, List.any_eq_true] at h
  have hlt : l.findIdx (fun c => c.1 == id) < l.length := List.findIdx_lt_length.2 h
  have hp := List.findIdx_getElem (w := hlt)
  have e : foC l id = l[l.findIdx (fun c => c.1 == id)] := by
    unfold foC atC
    rw [List.find?_eq_getElem?_findIdx, List.getElem?_eq_getElem hlt]
    rfl
  rw [e]
  exact ⟨List.getElem?_eq_getElem hlt, by simpa using hp⟩
theorem ixC_self {l : List CertD} {k : Nat} {a : CertD} (h : l[k]? = some a) : (ixC l a.1 = (k : Int)) ↔ hasC (l.take k) a.1 = false := by
  constructor
  · intro he
    cases hh : hasC (l.take k) a.1
    · rfl
    · exfalso
      simp only [hasC, List.any_eq_true] at hh
      obtain ⟨x, hx, hx2⟩ := hh
      rw [List.mem_take_iff_getElem] at hx
      obtain ⟨j, hj, rfl⟩ := hx
      unfold ixC at he
      rw [if_pos (hasC_at h rfl)] at he
      have he2 : (l.findIdx fun c => c.1 == a.1) = k := by omega
      have := List.not_of_lt_findIdx (xs := l) (p := fun c => c.1 == a.1) (i := j) (by omega)
      rw [hx2] at this; cases this
  · intro hn; exact ixC_at h hn rfl


theorem bytesLit_own (w : World) (bs : List UInt8) (B : Nat) (hB : B ≤ w.heap.size) (hl : bs.length ≤ 1000) : Own (w.alloc (.cells (bs.map u8v).toArray 5)) B (.slice (some ⟨w.heap.size, 0, none⟩) bs.length bs.length) bs := by
  have h := World.ownsRow_lit (base := B) (e := 5) (size := 1) w (bs.map u8v).toArray bs.length hB (by unfold maxLen; omega) (by simp)
  exact h
theorem u8v_mod {a : Int} (h : 0 ≤ a) : u8v (UInt8.ofNat a.toNat) = .int .u8 (a % 256) := by
  unfold u8v; rw [UInt8.toNat_ofNat']; congr 1; omega
theorem pcL_put {c : CertD} : pcL c = [UInt8.ofNat c.1.toNat, UInt8.ofNat c.2.1.toNat] ++ putB c.2.2.toNat 2 := by
  have q : ∀ (m n : Nat), m % 256 = n % 256 → UInt8.ofNat m = UInt8.ofNat n := fun m n h => by
    apply UInt8.toNat_inj.1; rw [UInt8.toNat_ofNat', UInt8.toNat_ofNat']; exact h
  simp only [pcL, putB, List.cons_append, List.nil_append, List.cons.injEq, true_and, and_true]
  exact ⟨q _ _ (by omega), q _ _ (by omega)⟩
end Go.Proofs.Ythfjnmkplifcmaa

