/- Chapter 13 of the program: roles, keys, digests, what is made of them, and the binding (AuthKey, AuthDigest, MakeAuth, BindOf), at every argument, where the two tables hold what the program's text lays (Tabs). What was there stays. -/
import Derived.Test.YtdbpnibcblelbaaDoorAuth
import Derived.Test.YtdbpnibcblelbaaDoorAuthT
import Derived.Test.YtdbpnibcblelbaaDoorAuthU
import Derived.Test.YtdbpnibcblelbaaDoorJoint14
import Derived.Test.YtdbpnibcblelbaaDoorCertJ
import Derived.Test.YtdbpnibcblelbaaDoorJoint15
import Derived.Test.YtdbpnibcblelbaaDoorWireP
import Derived.Test.YtdbpnibcblelbaaDoorDigB
import Derived.Test.YtdbpnibcblelbaaDoorKeyI
import Derived.Test.YtdbpnibcblelbaaDoorJoint5
import Derived.Laws.Cover2
import Derived.Laws.Cover3
import Derived.Laws.FloatArith
namespace Go.Proofs.YtdbpnibcblelbaaDoor
open Go.ChangeShapes Go.WideShapes Go.ChangeAt Go.RowKit

theorem isRole_c (r : Int) (w : World) : Calls Tryd.prog 32 #[.int .i64 r] w fun e w' => e = .returned (.bool (roleB r)) ∧ w' = w := by
  by_cases h1 : r = 1
  · have d1 : (r == 1) = true := by rw [beq_iff_eq]; exact h1
    rw [show roleB r = true by simp [roleB, h1]]
    clear h1
    go_enter Tryd.func32, Tryd.ntmps32
    go_wp2
    go_ret
    exact ⟨rfl, rfl⟩
  · have d1 : (r == 1) = false := by rw [beq_eq_false_iff_ne]; exact h1
    by_cases h2 : r = 2
    · have d2 : (r == 2) = true := by rw [beq_iff_eq]; exact h2
      rw [show roleB r = true by simp [roleB, h2]]
      clear h1 h2
      go_enter Tryd.func32, Tryd.ntmps32
      go_wp2
      go_ret
      exact ⟨rfl, rfl⟩
    · have d2 : (r == 2) = false := by rw [beq_eq_false_iff_ne]; exact h2
      rw [show roleB r = false by simp [roleB, h1, h2]]
      clear h1 h2
      go_enter Tryd.func32, Tryd.ntmps32
      go_wp2
      go_ret
      exact ⟨rfl, rfl⟩
theorem isContext_c (p : Option Addr) (q : Nat) (c : List UInt8) (w : World) : Calls Tryd.prog 44 #[.slice p c.length q] w fun e w' => e = .returned (.bool (ctxB c)) ∧ w' = w := by
  unfold ctxB
  by_cases h1 : (1 : Int) ≤ (c.length : Int)
  · by_cases h2 : (c.length : Int) ≤ 20
    · rw [inB_true h1 h2]
      go_enter Tryd.func44, Tryd.ntmps44
      go_wp2
      go_ret
      exact ⟨rfl, rfl⟩
    · rw [inB_false (by omega)]
      go_enter Tryd.func44, Tryd.ntmps44
      go_wp2
      go_ret
      exact ⟨rfl, rfl⟩
  · rw [inB_false (by omega)]
    go_enter Tryd.func44, Tryd.ntmps44
    go_wp2
    go_ret
    exact ⟨rfl, rfl⟩
theorem authKeyFault_c (p : Option Addr) (q : Nat) (x : List UInt8) (r : Int) (w : World) : Calls Tryd.prog 18 #[.slice p x.length q, .int .i64 r] w fun e w' => e = .returned (.int .i64 (akC x r)) ∧ w' = w := by
  cases h1 : is32 x
  · rw [show akC x r = 1 by simp [akC, h1]]
    go_enter Tryd.func18, Tryd.ntmps18
    go_wp2_with fail
    refine (isKey_c p q x w).mono ?_
    rintro e w2 ⟨rfl, hw⟩
    subst w2
    rw [h1]
    go_wp2
    go_ret
    exact ⟨rfl, rfl⟩
  · cases h2 : roleB r
    · rw [show akC x r = 3 by simp [akC, h1, h2]]
      go_enter Tryd.func18, Tryd.ntmps18
      go_wp2_with fail
      refine (isKey_c p q x w).mono ?_
      rintro e w2 ⟨rfl, hw⟩
      subst w2
      rw [h1]
      go_wp2_with fail
      refine (isRole_c r w).mono ?_
      rintro e w2 ⟨rfl, hw⟩
      subst w2
      rw [h2]
      go_wp2
      go_ret
      exact ⟨rfl, rfl⟩
    · rw [show akC x r = 0 by simp [akC, h1, h2]]
      go_enter Tryd.func18, Tryd.ntmps18
      go_wp2_with fail
      refine (isKey_c p q x w).mono ?_
      rintro e w2 ⟨rfl, hw⟩
      subst w2
      rw [h1]
      go_wp2_with fail
      refine (isRole_c r w).mono ?_
      rintro e w2 ⟨rfl, hw⟩
      subst w2
      rw [h2]
      go_wp2
      go_ret
      exact ⟨rfl, rfl⟩
theorem biD_len (x : List UInt8) : (biD x).2.length ≤ 1048576 := by
  unfold biD; split
  · exact Nat.le_trans (Nat.le_of_eq (biN_len x)) (by decide)
  · exact Nat.zero_le _
theorem akD_len (x : List UInt8) (r : Int) (fin : Bool) : (akD x r fin).2.length ≤ 1048576 := by
  unfold akD; split
  · exact Nat.le_trans (Nat.le_of_eq (kyN_len x r fin)) (by decide)
  · exact Nat.zero_le _
theorem adD_len (x : List UInt8) (r : Int) (ctx : List UInt8) (c : CertD) : (adD x r ctx c).2.length ≤ 1048576 := by
  unfold adD; split
  · exact Nat.le_trans (Nat.le_of_eq (dgN_len x r ctx c)) (by decide)
  · exact Nat.zero_le _
theorem maD_len (x : List UInt8) (r : Int) (ctx : List UInt8) (c : CertD) (place : Int) : (maD x r ctx c place).2.length ≤ 1048576 := by
  unfold maD; split
  · next h =>
    have h1 := (ctxB_parts (adC_ok (maC_ok h).1).2.1).2
    have h2 := mkN_len x r ctx c place
    show (mkN x r ctx c place).length ≤ 1048576
    omega
  · exact Nat.zero_le _
theorem role_two {r : Int} (h : roleB r = true) : r = 1 ∨ r = 2 := by simpa [roleB] using h
theorem akC_role {x : List UInt8} {r : Int} (h : akC x r = 0) : roleB r = true ∧ is32 x = true := by
  unfold akC at h
  cases h1 : is32 x
  · rw [h1] at h; cases h
  · cases h2 : roleB r
    · rw [h1, h2] at h; cases h
    · exact ⟨rfl, rfl⟩
theorem roleName1_c (w : World) : Calls Tryd.prog 38 #[.int .i64 1] w fun e w' => e = .returned (.string ⟨#[99, 108, 105, 101, 110, 116]⟩) ∧ w' = w := by
  go_enter Tryd.func38, Tryd.ntmps38
  go_wp2
  go_ret
  exact ⟨rfl, rfl⟩
theorem roleName2_c (w : World) : Calls Tryd.prog 38 #[.int .i64 2] w fun e w' => e = .returned (.string ⟨#[115, 101, 114, 118, 101, 114]⟩) ∧ w' = w := by
  go_enter Tryd.func38, Tryd.ntmps38
  go_wp2
  go_ret
  exact ⟨rfl, rfl⟩
theorem authLabel_c (r : Int) (fin : Bool) (w : World) (hr : roleB r = true) : Calls Tryd.prog 20 #[.int .i64 r, .bool fin] w fun e w' => e = .returned (.string (strB (labN r fin))) ∧ w' = w := by
  rcases role_two hr with rfl | rfl
  · cases fin
    · go_enter Tryd.func20, Tryd.ntmps20
      go_wp2_with fail
      refine (roleName1_c _).mono ?_
      rintro e w2 ⟨rfl, hw⟩
      subst w2
      go_wp2
      go_ret
      exact ⟨rfl, rfl⟩
    · go_enter Tryd.func20, Tryd.ntmps20
      go_wp2_with fail
      refine (roleName1_c _).mono ?_
      rintro e w2 ⟨rfl, hw⟩
      subst w2
      go_wp2
      go_ret
      exact ⟨rfl, rfl⟩
  · cases fin
    · go_enter Tryd.func20, Tryd.ntmps20
      go_wp2_with fail
      refine (roleName2_c _).mono ?_
      rintro e w2 ⟨rfl, hw⟩
      subst w2
      go_wp2
      go_ret
      exact ⟨rfl, rfl⟩
    · go_enter Tryd.func20, Tryd.ntmps20
      go_wp2_with fail
      refine (roleName2_c _).mono ?_
      rintro e w2 ⟨rfl, hw⟩
      subst w2
      go_wp2
      go_ret
      exact ⟨rfl, rfl⟩
theorem exKy_c (p : Option Addr) (q : Nat) (x : List UInt8) (r : Int) (fin : Bool) (w : World) (hk : akC x r = 0) (hr : Rd w p q x) (hT : Tabs w) :
    Calls Tryd.prog 19 #[.slice p x.length q, .string (strB (labN r fin)), .slice none 0 0, .int .i64 32] w fun e w' => ∃ u, e = .returned (.agg #[.int .i64 0, u]) ∧ Own w' w.heap.size u (kyN x r fin) ∧ Below w.heap.size w w' := by
  obtain ⟨h1, h2⟩ := akC_role hk
  have hl : labelC (labN r fin) [] 32 = 0 := by rcases role_two h1 with rfl | rfl <;> cases fin <;> decide
  have h := implEx_c p none q 0 x (labN r fin) [] 32 w hr (rd_nil _) (Nat.le_trans (labN_len _ _) (by decide)) hT
  have hc : exC x (labN r fin) [] 32 = 0 := by simp [exC, h2, hl]
  rw [hc, show exL x (labN r fin) [] 32 = kyN x r fin by rw [exL, if_pos hc]; rfl] at h
  exact h
set_option maxRecDepth 4000 in
set_option maxHeartbeats 1000000 in
theorem implAk_c (p : Option Addr) (q : Nat) (x : List UInt8) (r : Int) (fin : Bool) (w : World) (hr : Rd w p q x) (hT : Tabs w) :
    Calls Tryd.prog 7 #[.slice p x.length q, .int .i64 r, .bool fin] w fun e w' => ∃ u, e = .returned (.agg #[.int .i64 (akD x r fin).1, u]) ∧ Own w' w.heap.size u (akD x r fin).2 ∧ Below w.heap.size w w' := by
  have BW := alloc_below w (.cells #[.int .i64 0, .slice none 0 0] 24)
  have R := Arr.new w [.int .i64 0, .slice none 0 0] 24
  have KA : Hid _ := authKeyFault_c p q x r (w.alloc (.cells #[.int .i64 0, .slice none 0 0] 24))
  by_cases h0 : akC x r = 0
  · rw [show akD x r fin = (0, kyN x r fin) by rw [akD, if_pos h0]]
    have KE : Hid _ := exKy_c p q x r fin _ h0 (hr.keep BW) (hT.keep BW)
    have KL : Hid _ := authLabel_c r fin (w.alloc (.cells #[.int .i64 0, .slice none 0 0] 24)) (akC_role h0).1
    obtain ⟨pw, HP⟩ : ∃ pw, Hid (kyN x r fin = pw) := ⟨_, rfl⟩
    rw [HP.out] at KE ⊢
    rw [h0] at KA
    clear HP h0 hr hT
    go_enter Tryd.func7, Tryd.ntmps7
    go_wp2_with fail
    refine Calls.mono KA.out ?_
    rintro e w2 ⟨rfl, hw⟩
    subst hw
    go_wp2_with fail
    refine Calls.mono KL.out ?_
    rintro e w2 ⟨rfl, hw⟩
    subst hw
    go_wp2_with fail
    refine Calls.mono KE.out ?_
    rintro e w3 ⟨u3, rfl, k3, hb3⟩
    have BW3 := Below.step BW hb3
    have R3 := R.stay hb3
    have hlt : Hid (w.heap.size < (w.alloc (.cells #[.int .i64 0, .slice none 0 0] 24)).heap.size) := R.lt
    obtain ⟨p3, q3, rfl, -⟩ := k3.rd
    have c0 := R3.cell 0
    have c1 := R3.cell 1
    have fz := R3.frozen
    simp at c0 c1
    clear R KE KA KL hb3 R3
    go_wp2
    refine bodyPost_ret (v := .agg #[.int .i64 0, .slice p3 pw.length q3]) (by simp [results, Tryd.results7, go_sem, c0, c1]) rfl ⟨_, rfl, ?_, (BW3.setCell (Nat.le_refl _) _).setCell (Nat.le_refl _) _⟩
    exact ((k3.set (a := ⟨w.heap.size, 0, none⟩) hlt.out _).set (a := ⟨w.heap.size, 1, none⟩) hlt.out _).lower (B' := w.heap.size) (by have := hlt.out; omega)
  · rw [show akD x r fin = (akC x r, []) by rw [akD, if_neg h0]]
    obtain ⟨k, HK⟩ : ∃ k, Hid (akC x r = k) := ⟨_, rfl⟩
    rw [HK.out] at KA h0 ⊢
    have hd : (k != 0) = true := by rw [bne_iff_ne]; exact h0
    clear HK h0 hr hT R BW
    go_enter Tryd.func7, Tryd.ntmps7
    go_wp2_with fail
    refine Calls.mono KA.out ?_
    rintro e w2 ⟨rfl, hw⟩
    subst hw
    go_wp2
    exact bodyPost_ret (v := .agg #[.int .i64 k, .slice none 0 0]) (by simp [results, Tryd.results7, go_sem]) rfl ⟨_, rfl, Own_nil _ _, alloc_below _ _⟩
set_option maxRecDepth 4000 in
set_option maxHeartbeats 1000000 in
theorem authFault_c (p p2 : Option Addr) (q q2 : Nat) (x ctx : List UInt8) (r : Int) (c : CertD) (w : World) :
    Calls Tryd.prog 24 #[.slice p x.length q, .int .i64 r, .slice p2 ctx.length q2, .agg #[.int .i64 c.1, .int .i64 c.2.1, .int .i64 c.2.2]] w fun e w' => e = .returned (.int .i64 (adC x r ctx c)) ∧ Below w.heap.size w w' := by
  have BW := alloc_below w (.cells #[.int .i64 c.1, .int .i64 c.2.1, .int .i64 c.2.2] 35)
  have KA : Hid _ := authKeyFault_c p q x r (w.alloc (.cells #[.int .i64 c.1, .int .i64 c.2.1, .int .i64 c.2.2] 35))
  by_cases h0 : akC x r = 0
  · rw [h0] at KA
    have KX := isContext_c p2 q2 ctx (w.alloc (.cells #[.int .i64 c.1, .int .i64 c.2.1, .int .i64 c.2.2] 35))
    cases h1 : ctxB ctx
    · rw [show adC x r ctx c = 2 by rw [adC, if_pos h0, h1]; rfl]
      rw [h1] at KX
      have KX : Hid _ := KX
      clear h0 h1
      go_enter Tryd.func24, Tryd.ntmps24
      go_wp2_with fail
      refine Calls.mono KA.out ?_
      rintro e w2 ⟨rfl, hw⟩
      subst hw
      go_wp2_with fail
      refine Calls.mono KX.out ?_
      rintro e w2 ⟨rfl, hw⟩
      subst hw
      go_wp2
      go_ret
      exact ⟨rfl, BW⟩
    · rw [h1] at KX
      have KX : Hid _ := KX
      have KC := isCert_c c (w.alloc (.cells #[.int .i64 c.1, .int .i64 c.2.1, .int .i64 c.2.2] 35))
      cases h2 : okC c
      · rw [show adC x r ctx c = 3 by rw [adC, if_pos h0, h1, h2]; rfl]
        rw [h2] at KC
        have KC : Hid _ := KC
        clear h0 h1 h2
        go_enter Tryd.func24, Tryd.ntmps24
        go_wp2_with fail
        refine Calls.mono KA.out ?_
        rintro e w2 ⟨rfl, hw⟩
        subst hw
        go_wp2_with fail
        refine Calls.mono KX.out ?_
        rintro e w2 ⟨rfl, hw⟩
        subst hw
        go_wp2_with fail
        refine Calls.mono KC.out ?_
        rintro e w3 ⟨rfl, hb⟩
        go_wp2
        go_ret
        exact ⟨rfl, Below.step BW hb⟩
      · rw [show adC x r ctx c = 0 by rw [adC, if_pos h0, h1, h2]; rfl]
        rw [h2] at KC
        have KC : Hid _ := KC
        clear h0 h1 h2
        go_enter Tryd.func24, Tryd.ntmps24
        go_wp2_with fail
        refine Calls.mono KA.out ?_
        rintro e w2 ⟨rfl, hw⟩
        subst hw
        go_wp2_with fail
        refine Calls.mono KX.out ?_
        rintro e w2 ⟨rfl, hw⟩
        subst hw
        go_wp2_with fail
        refine Calls.mono KC.out ?_
        rintro e w3 ⟨rfl, hb⟩
        go_wp2
        go_ret
        exact ⟨rfl, Below.step BW hb⟩
  · rw [show adC x r ctx c = akC x r by rw [adC, if_neg h0]]
    obtain ⟨k, HK⟩ : ∃ k, Hid (akC x r = k) := ⟨_, rfl⟩
    rw [HK.out] at KA h0 ⊢
    have hd : (k != 0) = true := by rw [bne_iff_ne]; exact h0
    clear HK h0
    go_enter Tryd.func24, Tryd.ntmps24
    go_wp2_with fail
    refine Calls.mono KA.out ?_
    rintro e w2 ⟨rfl, hw⟩
    subst hw
    go_wp2
    go_ret
    exact ⟨rfl, BW⟩
end Go.Proofs.YtdbpnibcblelbaaDoor

