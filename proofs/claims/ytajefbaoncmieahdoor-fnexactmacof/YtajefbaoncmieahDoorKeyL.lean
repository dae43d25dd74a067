/- The contracts of labels in the program: impl.isLength, impl.isLabel, impl.LabelBytes: code and bytes. What was there stays. -/
import Derived.Test.YtajefbaoncmieahDoorJoinI
import Derived.Test.YtajefbaoncmieahDoorKeyS
namespace Go.Proofs.YtajefbaoncmieahDoor
open Go.ChangeShapes Go.WideShapes Go.ChangeAt Go.RowKit

/-- A literal of bytes in a new row. -/
theorem rd_new (w : World) (vs : List Value) (bs : List UInt8) (t : TypeId) (n : Nat) (hv : vs = bs.map u8v) (hn : bs.length = n) (hl : n ≤ 1000) : Rd (w.alloc (.cells vs.toArray t)) (some ⟨w.heap.size, 0, none⟩) n bs := by
  have hA := Arr.new w vs t
  refine ⟨by omega, by unfold maxLen; omega, fun e => by simp at e, fun _ => ⟨_, _, rfl, fun i hi => ?_⟩⟩
  rw [Nat.zero_add, hA.cell, hv, u8v_at hi]
theorem pcs_four (w : World) (x y z v : Pc) (t : TypeId) (hx : Rd w x.p x.q x.bs) (hy : Rd w y.p y.q y.bs) (hz : Rd w z.p z.q z.bs) (hv : Rd w v.p v.q v.bs) : Pcs (w.alloc (.cells #[x.val, y.val, z.val, v.val] t)) w.heap.size 0 [x, y, z, v] := by
  have hA := Arr.new w [x.val, y.val, z.val, v.val] t
  intro i u hu
  rw [Nat.zero_add, hA.cell]
  match i, hu with
  | 0, hu => simp at hu; subst hu; exact ⟨rfl, hx.keep (alloc_below _ _)⟩
  | 1, hu => simp at hu; subst hu; exact ⟨rfl, hy.keep (alloc_below _ _)⟩
  | 2, hu => simp at hu; subst hu; exact ⟨rfl, hz.keep (alloc_below _ _)⟩
  | 3, hu => simp at hu; subst hu; exact ⟨rfl, hv.keep (alloc_below _ _)⟩
  | i + 4, hu => simp at hu
theorem u8_of (n : Nat) (h : n < 256) : u8v (UInt8.ofNat n) = .int .u8 (n : Int) := by
  unfold u8v
  rw [UInt8.toNat_ofNat', Nat.mod_eq_of_lt h]
theorem put2 (m : Nat) (h : m ≤ 255) : putB m 2 = [0, UInt8.ofNat m] := by
  show [UInt8.ofNat (m / 256 ^ 1 % 256), UInt8.ofNat (m / 256 ^ 0 % 256)] = _
  rw [show m / 256 ^ 1 % 256 = 0 by omega, show m / 256 ^ 0 % 256 = m by simp; omega]
  rfl
theorem joinedLab_c (W : World) (f ctx : List UInt8) (m : Nat) (hm : m ≤ 255) (hf : f.length ≤ 46) (hc : ctx.length ≤ 100) (p2 : Option Addr) (q2 : Nat) (hr : Rd W p2 q2 ctx) :
    Calls Tryd.prog 40 #[.slice (some ⟨(bytesW W f).heap.size + 1 + 1, 0, none⟩) 4 4]
      ((((bytesW W f).alloc (.cells #[.int .u8 0, .int .u8 (m : Int), .int .u8 ((f.length : Int) % 256)] 5)).alloc (.cells #[.int .u8 (ctx.length : Int)] 5)).alloc (.cells #[.slice (some ⟨(bytesW W f).heap.size, 0, none⟩) 3 3, .slice (some ⟨W.heap.size, 0, none⟩) f.length (bytesC W f), .slice (some ⟨(bytesW W f).heap.size + 1, 0, none⟩) 1 1, .slice p2 ctx.length q2] 22))
      fun e w' => ∃ u, e = .returned u ∧ Own w' W.heap.size u (putB m 2 ++ [UInt8.ofNat f.length] ++ f ++ [UInt8.ofNat ctx.length] ++ ctx) ∧ Below W.heap.size W w' := by
  have hbW := bytesW_below W f
  have r2 := bytesW_rd W f (by unfold maxLen; omega)
  have r4 := hr.keep hbW
  generalize bytesC W f = c2 at *
  generalize bytesW W f = W1 at *
  have r1 := rd_new W1 [.int .u8 0, .int .u8 (m : Int), .int .u8 ((f.length : Int) % 256)] [0, UInt8.ofNat m, UInt8.ofNat f.length] 5 3 (by
    simp only [List.map_cons, List.map_nil]
    rw [u8_of m (by omega), u8_of f.length (by omega), show ((f.length : Int) % 256) = f.length by omega]
    rfl) rfl (by decide)
  have b1 := alloc_below W1 (.cells #[.int .u8 0, .int .u8 (m : Int), .int .u8 ((f.length : Int) % 256)] 5)
  have z1 := size_alloc W1 (.cells #[.int .u8 0, .int .u8 (m : Int), .int .u8 ((f.length : Int) % 256)] 5)
  replace r2 := r2.keep b1
  replace r4 := r4.keep b1
  have r1' : Rd (W1.alloc (.cells #[.int .u8 0, .int .u8 (m : Int), .int .u8 ((f.length : Int) % 256)] 5)) (some ⟨W1.heap.size, 0, none⟩) 3 [0, UInt8.ofNat m, UInt8.ofNat f.length] := r1
  replace hbW := Below.step hbW b1
  clear r1 b1
  generalize W1.alloc (.cells #[.int .u8 0, .int .u8 (m : Int), .int .u8 ((f.length : Int) % 256)] 5) = W2 at *
  have r3 := rd_new W2 [.int .u8 (ctx.length : Int)] [UInt8.ofNat ctx.length] 5 1 (by
    simp only [List.map_cons, List.map_nil]
    rw [u8_of ctx.length (by omega)]) rfl (by decide)
  have b2 := alloc_below W2 (.cells #[.int .u8 (ctx.length : Int)] 5)
  have z2 := size_alloc W2 (.cells #[.int .u8 (ctx.length : Int)] 5)
  replace r1' := r1'.keep b2
  replace r2 := r2.keep b2
  replace r4 := r4.keep b2
  have r3' : Rd (W2.alloc (.cells #[.int .u8 (ctx.length : Int)] 5)) (some ⟨W2.heap.size, 0, none⟩) 1 [UInt8.ofNat ctx.length] := r3
  replace hbW := Below.step hbW b2
  clear r3 b2
  generalize W2.alloc (.cells #[.int .u8 (ctx.length : Int)] 5) = W3 at *
  rw [← z1, ← z2]
  have h := joined_c [⟨some ⟨W1.heap.size, 0, none⟩, 3, [0, UInt8.ofNat m, UInt8.ofNat f.length]⟩, ⟨some ⟨W.heap.size, 0, none⟩, c2, f⟩, ⟨some ⟨W2.heap.size, 0, none⟩, 1, [UInt8.ofNat ctx.length]⟩, ⟨p2, q2, ctx⟩] W3.heap.size 0 4 _
    (pcs_four W3 ⟨some ⟨W1.heap.size, 0, none⟩, 3, [0, UInt8.ofNat m, UInt8.ofNat f.length]⟩ ⟨some ⟨W.heap.size, 0, none⟩, c2, f⟩ ⟨some ⟨W2.heap.size, 0, none⟩, 1, [UInt8.ofNat ctx.length]⟩ ⟨p2, q2, ctx⟩ 22 r1' r2 r3' r4)
    (by simp [flat]; omega) (by simp)
  have hz := hbW.size
  refine h.mono ?_
  rintro e w1 ⟨u, rfl, k, hb⟩
  refine ⟨u, rfl, ?_, Below.step hbW (Below.res hb)⟩
  rw [put2 m hm]
  have hk := k.lower (B' := W.heap.size) (by rw [size_alloc]; omega)
  simpa [flat] using hk



end Go.Proofs.YtajefbaoncmieahDoor
