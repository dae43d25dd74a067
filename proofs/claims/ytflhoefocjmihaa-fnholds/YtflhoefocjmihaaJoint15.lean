/- The contracts of the specification's l12Unpack, UnpackCert, LookCert, at every argument (written by tools/cert_t.py). What was there stays. -/
import Derived.Test.YtflhoefocjmihaaJoint14
import Derived.Test.YtflhoefocjmihaaJoint4
import Derived.Test.YtflhoefocjmihaaJoint8
import Derived.Test.YtflhoefocjmihaaJoint3
import Derived.Test.YtflhoefocjmihaaJoint10
import Derived.Test.YtflhoefocjmihaaGen
import Derived.Test.YtflhoefocjmihaaPickG
import Derived.Test.YtflhoefocjmihaaJoinI
import Derived.Test.YtflhoefocjmihaaJoint13
import Derived.Test.YtflhoefocjmihaaBytes
import Derived.Handy
namespace Go.Proofs.Ytflhoefocjmihaa
open Go.ChangeShapes Go.WideShapes Go.ChangeAt Go.RowKit

abbrev aggC (r : Int × CertD) : Value := .agg #[.int .i64 r.1, .int .i64 r.2.1, .int .i64 r.2.2.1, .int .i64 r.2.2.2]
theorem wrap_u8 (x : UInt8) : wrap64 (x.toNat : Int) = x.toNat := by unfold wrap64; have := x.toNat_lt; omega
theorem getB_two (c d : UInt8) : ((getB [c, d] : Nat) : Int) = c.toNat * 256 + d.toNat := by simp [getB]
theorem ucD_bad {a b c d : UInt8} (h : okC (rdC a b c d) = false) : ucD [a, b, c, d] = (5, zC) := by show (if okC (rdC a b c d) then _ else _) = _; rw [h]; rfl
theorem ucD_good {a b c d : UInt8} (h : okC (rdC a b c d) = true) : ucD [a, b, c, d] = (0, rdC a b c d) := by show (if okC (rdC a b c d) then _ else _) = _; rw [h]; rfl
end Go.Proofs.Ytflhoefocjmihaa

/- The contracts of the certificates in the program: isCertId, isOwner, isGiver, isCertUntil, isCert, certOf, CertsFault, PackCert, UnpackCert, LookCert, at every argument. What was there stays. -/
namespace Go.Proofs.Ytflhoefocjmihaa
open Go.ChangeShapes Go.WideShapes Go.ChangeAt Go.RowKit

theorem isCertId_c (v : Int) (w : World) : Calls Try.prog 47 #[.int .i64 v] w fun e w' => e = .returned (.bool (inB v 1 99)) ∧ w' = w := by
  by_cases h1 : 1 ≤ v
  · by_cases h2 : v ≤ 99
    · rw [inB_true h1 h2]
      go_enter Try.func47, Try.ntmps47
      go_wp2
      go_ret
      exact ⟨rfl, rfl⟩
    · rw [inB_false (by omega)]
      go_enter Try.func47, Try.ntmps47
      go_wp2
      go_ret
      exact ⟨rfl, rfl⟩
  · rw [inB_false (by omega)]
    go_enter Try.func47, Try.ntmps47
    go_wp2
    go_ret
    exact ⟨rfl, rfl⟩
theorem isCertUntil_c (v : Int) (w : World) : Calls Try.prog 35 #[.int .i64 v] w fun e w' => e = .returned (.bool (inB v 0 9999)) ∧ w' = w := by
  by_cases h1 : 0 ≤ v
  · by_cases h2 : v ≤ 9999
    · rw [inB_true h1 h2]
      go_enter Try.func35, Try.ntmps35
      go_wp2
      go_ret
      exact ⟨rfl, rfl⟩
    · rw [inB_false (by omega)]
      go_enter Try.func35, Try.ntmps35
      go_wp2
      go_ret
      exact ⟨rfl, rfl⟩
  · rw [inB_false (by omega)]
    go_enter Try.func35, Try.ntmps35
    go_wp2
    go_ret
    exact ⟨rfl, rfl⟩
end Go.Proofs.Ytflhoefocjmihaa

/- The draws of chapter 12 on certificates: l12Right, l12Bent, DrawUnpackCert, DrawPackCert, DrawLookCert: what comes out owns its memory; its bounds, no more (written by tools/draw_ct.py). -/
namespace Go.Proofs.Ytflhoefocjmihaa
open Go.ChangeShapes Go.WideShapes Go.ChangeAt Go.RowKit

theorem OwnL.drawC {α : Type} {e : TypeId} {c : Cod α} {w w' : World} {B b : Nat} {v : Value} {l : List α} {xs : List Value} {fp : List Nat} (h : OwnL e c w B v l xs fp) (hg : w.grownBy w' (some b)) (hb : b < B) : OwnL e c w' B v l xs fp :=
  h.other (Only.grown hg) (fun k hk e => by have := (h.ins k hk).1; simp at e; omega)
theorem grown_newC {w v v' : World} {r row : Option Nat} (h : w.grownBy v r) (k : v.grownBy v' row) (hr : ∀ j, row = some j → w.heap.size ≤ j) : w.grownBy v' r :=
  ⟨k.os.trans h.os, k.tape.trans h.tape, k.output.trans h.output, Nat.le_trans h.size k.size, fun i hi hn => (k.block i (Nat.lt_of_lt_of_le hi h.size) (fun e => by have := hr i e.symm; omega)).trans (h.block i hi hn)⟩
theorem ownAll_same {α : Type} {c : Cod α} {w : World} {B : Nat} {a : α} {us : List Value} (h : c.own w B a us []) : ∀ n, OwnAll c w B (List.replicate n a) (List.replicate n us).flatten []
  | 0 => ⟨rfl, rfl⟩
  | n + 1 => by
    have h1 := OwnAll.snoc (ownAll_same h n) h
    rw [← List.replicate_succ', List.append_nil] at h1
    rw [show (List.replicate (n + 1) us).flatten = (List.replicate n us).flatten ++ us by rw [List.replicate_succ', List.flatten_append]; simp]
    exact h1
end Go.Proofs.Ytflhoefocjmihaa

/- The draws of chapter 13 for authenticators that are made: what comes out can be read; its bounds, no more (written by tools/draw_au.py). -/
namespace Go.Proofs.Ytflhoefocjmihaa
open Go.ChangeShapes Go.WideShapes Go.ChangeAt Go.RowKit

set_option maxRecDepth 4000 in
set_option maxHeartbeats 1000000 in
theorem l13DrawContext_c (b : Nat) (p : Option Addr) (q : Nat) (cs : List UInt8) (t : Int) (w : World) (hs : Src w b p q cs t) (ht : 0 ≤ t) (ht2 : t ≤ 700000000) :
    Calls Try.prog 33 #[.pointer (some ⟨b, 0, none⟩)] w fun e w' => ∃ v x t', e = .returned v ∧ Own w' w.heap.size v x ∧ x.length ≤ 21 ∧ t ≤ t' ∧ t' ≤ t + 30 ∧ Src w' b p q cs t' ∧ w.grownBy w' (some b) := by
  go_enter Try.func33, Try.ntmps33
  go_wp2_with fail
  refine (l1Next_c b p q cs t 9 _ hs (by omega) (by omega) (by omega) (by omega)).mono ?_
  rintro e w1 ⟨n, rfl, x0, y0, hs1, hg1⟩
  clear hs
  go_wp2_with fail
  refine (l1Pick_c b p q cs (t + 1) w1.heap.size [1, 4, 8, 20, 1 + n, 0, 21] 7 _ (hs1.keep (alloc_below _ _)) (by omega) (by omega) rfl (by decide) (by decide) (by have := hs1.lt; omega) (new_ints _ _ _ [1, 4, 8, 20, 1 + n, 0, 21] rfl)).mono ?_
  rintro e w2 ⟨r, hr, rfl, hs2, hg2⟩
  have hr2 : 0 ≤ r ∧ r ≤ 21 := by simp at hr; omega
  have hg : w.grownBy w2 (some b) := grownBy_trans (grownBy_trans hg1 (World.grownBy_alloc _ _ _)) hg2
  have hz : w.heap.size ≤ w2.heap.size := hg.size
  clear hs1 hg1 hg2 hr
  go_wp2_with fail
  refine (l1Some_c b p q cs (t + 1 + 1) r _ hs2 (by omega) (by omega) hr2.1 (by omega)).mono ?_
  rintro e w3 ⟨u, bs, rfl, hbl, ko, hs3, hg3⟩
  go_wp2
  go_ret
  exact ⟨u, bs, t + 1 + 1 + r, rfl, ko.lower hz, by omega, by omega, by omega, hs3, grownBy_trans hg hg3⟩
end Go.Proofs.Ytflhoefocjmihaa

/- isKey of the program: does it have 32 bytes? -/
namespace Go.Proofs.Ytflhoefocjmihaa
open Go.ChangeShapes Go.WideShapes Go.ChangeAt Go.RowKit

theorem isKeyR_c (p : Option Addr) (q : Nat) (bs : List UInt8) (w : World) : Calls Try.prog 42 #[.slice p bs.length q] w fun e w' => e = .returned (.bool (is32 bs)) ∧ w' = w := by
  by_cases h : bs.length = 32
  · rw [show is32 bs = true by simp [is32, h]]
    have d1 : ((bs.length : Int) == 32) = true := by rw [beq_iff_eq]; omega
    clear h
    go_enter Try.func42, Try.ntmps42
    go_wp2
    go_ret
    exact ⟨rfl, rfl⟩
  · rw [show is32 bs = false by simp [is32, h]]
    have d1 : ((bs.length : Int) == 32) = false := by rw [beq_eq_false_iff_ne]; omega
    clear h
    go_enter Try.func42, Try.ntmps42
    go_wp2
    go_ret
    exact ⟨rfl, rfl⟩
end Go.Proofs.Ytflhoefocjmihaa

