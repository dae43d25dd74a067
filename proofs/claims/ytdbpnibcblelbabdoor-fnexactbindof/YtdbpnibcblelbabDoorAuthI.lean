/- Chapter 13 of the program: roles, keys, digests, what is made of them, and the binding (AuthKey, AuthDigest, MakeAuth, BindOf), at every argument, where the two tables hold what the program's text lays (Tabs). What was there stays. -/
import Derived.Test.YtdbpnibcblelbabDoorAuth
import Derived.Test.YtdbpnibcblelbabDoorJoint10
import Derived.Test.YtdbpnibcblelbabDoorJoint11
import Derived.Test.YtdbpnibcblelbabDoorSchF
import Derived.Test.YtdbpnibcblelbabDoorWireP
import Derived.Test.YtdbpnibcblelbabDoorDigB
import Derived.Test.YtdbpnibcblelbabDoorKeyI
import Derived.Test.YtdbpnibcblelbabDoorStoreR
import Derived.Laws.Cover2
import Derived.Laws.Cover3
import Derived.Laws.FloatArith
namespace Go.Proofs.YtdbpnibcblelbabDoor
open Go.ChangeShapes Go.WideShapes Go.ChangeAt Go.RowKit

theorem biD_len (x : List UInt8) : (biD x).2.length ≤ 1048576 := by
  unfold biD; split
  · exact Nat.le_trans (Nat.le_of_eq (biN_len x)) (by decide)
  · exact Nat.zero_le _
theorem akD_len (x : List UInt8) (r : Int) (fin : Bool) : (akD x r fin).2.length ≤ 1048576 := by
  unfold akD; split
  · exact Nat.le_trans (Nat.le_of_eq (kyN_len x r fin)) (by decide)
  · exact Nat.zero_le _
theorem adD_len (x : List UInt8) (r : Int) (ctx : List UInt8) (c : CertD) : (adD x r ctx c).2.length ≤ 1048576 := by
  unfold adD; split
  · exact Nat.le_trans (Nat.le_of_eq (dgN_len x r ctx c)) (by decide)
  · exact Nat.zero_le _
theorem maD_len (x : List UInt8) (r : Int) (ctx : List UInt8) (c : CertD) (place : Int) : (maD x r ctx c place).2.length ≤ 1048576 := by
  unfold maD; split
  · next h =>
    have h1 := (ctxB_parts (adC_ok (maC_ok h).1).2.1).2
    have h2 := mkN_len x r ctx c place
    show (mkN x r ctx c place).length ≤ 1048576
    omega
  · exact Nat.zero_le _
theorem role_two {r : Int} (h : roleB r = true) : r = 1 ∨ r = 2 := by simpa [roleB] using h
theorem akC_role {x : List UInt8} {r : Int} (h : akC x r = 0) : roleB r = true ∧ is32 x = true := by
  unfold akC at h
  cases h1 : is32 x
  · rw [h1] at h; cases h
  · cases h2 : roleB r
    · rw [h1, h2] at h; cases h
    · exact ⟨rfl, rfl⟩
theorem exKy_c (p : Option Addr) (q : Nat) (x : List UInt8) (r : Int) (fin : Bool) (w : World) (hk : akC x r = 0) (hr : Rd w p q x) (hT : Tabs w) :
    Calls Tryd.prog 15 #[.slice p x.length q, .string (strB (labN r fin)), .slice none 0 0, .int .i64 32] w fun e w' => ∃ u, e = .returned (.agg #[.int .i64 0, u]) ∧ Own w' w.heap.size u (kyN x r fin) ∧ Below w.heap.size w w' := by
  obtain ⟨h1, h2⟩ := akC_role hk
  have hl : labelC (labN r fin) [] 32 = 0 := by rcases role_two h1 with rfl | rfl <;> cases fin <;> decide
  have h := implEx_c p none q 0 x (labN r fin) [] 32 w hr (rd_nil _) (Nat.le_trans (labN_len _ _) (by decide)) hT
  have hc : exC x (labN r fin) [] 32 = 0 := by simp [exC, h2, hl]
  rw [hc, show exL x (labN r fin) [] 32 = kyN x r fin by rw [exL, if_pos hc]; rfl] at h
  exact h
set_option maxRecDepth 4000 in
set_option maxHeartbeats 1000000 in
theorem implBi_c (p : Option Addr) (q : Nat) (x : List UInt8) (w : World) (hr : Rd w p q x) (hT : Tabs w) :
    Calls Tryd.prog 6 #[.slice p x.length q] w fun e w' => ∃ u, e = .returned (.agg #[.int .i64 (biD x).1, u]) ∧ Own w' w.heap.size u (biD x).2 ∧ Below w.heap.size w w' := by
  have BW := alloc_below w (.cells #[.int .i64 0, .slice none 0 0] 24)
  have R := Arr.new w [.int .i64 0, .slice none 0 0] 24
  have KA := isKey_c p q x (w.alloc (.cells #[.int .i64 0, .slice none 0 0] 24))
  cases h0 : is32 x
  · rw [show biD x = (1, []) by rw [biD, h0]; rfl]
    rw [h0] at KA
    have KA : Hid _ := KA
    clear hr hT R BW
    go_enter Tryd.func6, Tryd.ntmps6
    go_wp2_with fail
    refine Calls.mono KA.out ?_
    rintro e w2 ⟨rfl, hw⟩
    subst hw
    go_wp2
    exact bodyPost_ret (v := .agg #[.int .i64 1, .slice none 0 0]) (by simp [results, Tryd.results6, go_sem]) rfl ⟨_, rfl, Own_nil _ _, alloc_below _ _⟩
  · rw [show biD x = (0, biN x) by rw [biD, h0]; rfl]
    rw [h0] at KA
    have KA : Hid _ := KA
    have KE := implEx_c p none q 0 x bindingB [] 32 _ (hr.keep BW) (rd_nil _) (by decide) (hT.keep BW)
    have hc : exC x bindingB [] 32 = 0 := by simp [exC, h0, show labelC bindingB [] 32 = 0 by decide]
    rw [hc, show exL x bindingB [] 32 = biN x by rw [exL, if_pos hc]; rfl, ← binding_str] at KE
    have KE : Hid _ := KE
    obtain ⟨pw, HP⟩ : ∃ pw, Hid (biN x = pw) := ⟨_, rfl⟩
    rw [HP.out] at KE ⊢
    clear HP hr hT h0 hc
    go_enter Tryd.func6, Tryd.ntmps6
    go_wp2_with fail
    refine Calls.mono KA.out ?_
    rintro e w2 ⟨rfl, hw⟩
    subst hw
    go_wp2_with fail
    refine Calls.mono KE.out ?_
    rintro e w3 ⟨u3, rfl, k3, hb3⟩
    have BW3 := Below.step BW hb3
    have R3 := R.stay hb3
    have hlt : Hid (w.heap.size < (w.alloc (.cells #[.int .i64 0, .slice none 0 0] 24)).heap.size) := R.lt
    obtain ⟨p3, q3, rfl, -⟩ := k3.rd
    have c0 := R3.cell 0
    have c1 := R3.cell 1
    have fz := R3.frozen
    simp at c0 c1
    clear R KE KA hb3 R3
    go_wp2
    refine bodyPost_ret (v := .agg #[.int .i64 0, .slice p3 pw.length q3]) (by simp [results, Tryd.results6, go_sem, c0, c1]) rfl ⟨_, rfl, ?_, (BW3.setCell (Nat.le_refl _) _).setCell (Nat.le_refl _) _⟩
    exact ((k3.set (a := ⟨w.heap.size, 0, none⟩) hlt.out _).set (a := ⟨w.heap.size, 1, none⟩) hlt.out _).lower (B' := w.heap.size) (by have := hlt.out; omega)
end Go.Proofs.YtdbpnibcblelbabDoor

