/- Chapter 13 of the program: roles, keys, digests, what is made of them, and the binding (AuthKey, AuthDigest, MakeAuth, BindOf), at every argument, where the two tables hold what the program's text lays (Tabs). What was there stays. -/
import Derived.Test.YtflhoefocjmihaaDoorAuth
import Derived.Test.YtflhoefocjmihaaDoorJoint17
import Derived.Test.YtflhoefocjmihaaDoorJoint16
import Derived.Test.YtflhoefocjmihaaDoorSchF
import Derived.Test.YtflhoefocjmihaaDoorJoint14
import Derived.Test.YtflhoefocjmihaaDoorDigB
import Derived.Test.YtflhoefocjmihaaDoorKeyI
import Derived.Test.YtflhoefocjmihaaDoorJoint7
import Derived.Laws.Cover2
import Derived.Laws.Cover3
import Derived.Laws.FloatArith
import Derived.Test.YtflhoefocjmihaaDoorSesS
import Derived.Test.YtflhoefocjmihaaDoorSesI
import Derived.Test.YtflhoefocjmihaaDoorJoint8
import Derived.Test.YtflhoefocjmihaaDoorJoint1
namespace Go.Proofs.YtflhoefocjmihaaDoor
open Go.ChangeShapes Go.WideShapes Go.ChangeAt Go.RowKit

theorem biD_len (x : List UInt8) : (biD x).2.length ≤ 1048576 := by
  unfold biD; split
  · exact Nat.le_trans (Nat.le_of_eq (biN_len x)) (by decide)
  · exact Nat.zero_le _
theorem akD_len (x : List UInt8) (r : Int) (fin : Bool) : (akD x r fin).2.length ≤ 1048576 := by
  unfold akD; split
  · exact Nat.le_trans (Nat.le_of_eq (kyN_len x r fin)) (by decide)
  · exact Nat.zero_le _
theorem adD_len (x : List UInt8) (r : Int) (ctx : List UInt8) (c : CertD) : (adD x r ctx c).2.length ≤ 1048576 := by
  unfold adD; split
  · exact Nat.le_trans (Nat.le_of_eq (dgN_len x r ctx c)) (by decide)
  · exact Nat.zero_le _
theorem maD_len (x : List UInt8) (r : Int) (ctx : List UInt8) (c : CertD) (place : Int) : (maD x r ctx c place).2.length ≤ 1048576 := by
  unfold maD; split
  · next h =>
    have h1 := (ctxB_parts (adC_ok (maC_ok h).1).2.1).2
    have h2 := mkN_len x r ctx c place
    show (mkN x r ctx c place).length ≤ 1048576
    omega
  · exact Nat.zero_le _
theorem role_two {r : Int} (h : roleB r = true) : r = 1 ∨ r = 2 := by simpa [roleB] using h
theorem akC_role {x : List UInt8} {r : Int} (h : akC x r = 0) : roleB r = true ∧ is32 x = true := by
  unfold akC at h
  cases h1 : is32 x
  · rw [h1] at h; cases h
  · cases h2 : roleB r
    · rw [h1, h2] at h; cases h
    · exact ⟨rfl, rfl⟩
theorem exKy_c (p : Option Addr) (q : Nat) (x : List UInt8) (r : Int) (fin : Bool) (w : World) (hk : akC x r = 0) (hr : Rd w p q x) (hT : Tabs w) :
    Calls Tryd.prog 26 #[.slice p x.length q, .string (strB (labN r fin)), .slice none 0 0, .int .i64 32] w fun e w' => ∃ u, e = .returned (.agg #[.int .i64 0, u]) ∧ Own w' w.heap.size u (kyN x r fin) ∧ Below w.heap.size w w' := by
  obtain ⟨h1, h2⟩ := akC_role hk
  have hl : labelC (labN r fin) [] 32 = 0 := by rcases role_two h1 with rfl | rfl <;> cases fin <;> decide
  have h := implEx_c p none q 0 x (labN r fin) [] 32 w hr (rd_nil _) (Nat.le_trans (labN_len _ _) (by decide)) hT
  have hc : exC x (labN r fin) [] 32 = 0 := by simp [exC, h2, hl]
  rw [hc, show exL x (labN r fin) [] 32 = kyN x r fin by rw [exL, if_pos hc]; rfl] at h
  exact h
set_option maxRecDepth 4000 in
set_option maxHeartbeats 1000000 in
theorem implBi_c (p : Option Addr) (q : Nat) (x : List UInt8) (w : World) (hr : Rd w p q x) (hT : Tabs w) :
    Calls Tryd.prog 9 #[.slice p x.length q] w fun e w' => ∃ u, e = .returned (.agg #[.int .i64 (biD x).1, u]) ∧ Own w' w.heap.size u (biD x).2 ∧ Below w.heap.size w w' := by
  have BW := alloc_below w (.cells #[.int .i64 0, .slice none 0 0] 33)
  have R := Arr.new w [.int .i64 0, .slice none 0 0] 33
  have KA := isKey_c p q x (w.alloc (.cells #[.int .i64 0, .slice none 0 0] 33))
  cases h0 : is32 x
  · rw [show biD x = (1, []) by rw [biD, h0]; rfl]
    rw [h0] at KA
    have KA : Hid _ := KA
    clear hr hT R BW
    go_enter Tryd.func9, Tryd.ntmps9
    go_wp2_with fail
    refine Calls.mono KA.out ?_
    rintro e w2 ⟨rfl, hw⟩
    subst hw
    go_wp2
    exact bodyPost_ret (v := .agg #[.int .i64 1, .slice none 0 0]) (by simp [results, Tryd.results9, go_sem]) rfl ⟨_, rfl, Own_nil _ _, alloc_below _ _⟩
  · rw [show biD x = (0, biN x) by rw [biD, h0]; rfl]
    rw [h0] at KA
    have KA : Hid _ := KA
    have KE := implEx_c p none q 0 x bindingB [] 32 _ (hr.keep BW) (rd_nil _) (by decide) (hT.keep BW)
    have hc : exC x bindingB [] 32 = 0 := by simp [exC, h0, show labelC bindingB [] 32 = 0 by decide]
    rw [hc, show exL x bindingB [] 32 = biN x by rw [exL, if_pos hc]; rfl, ← binding_str] at KE
    have KE : Hid _ := KE
    obtain ⟨pw, HP⟩ : ∃ pw, Hid (biN x = pw) := ⟨_, rfl⟩
    rw [HP.out] at KE ⊢
    clear HP hr hT h0 hc
    go_enter Tryd.func9, Tryd.ntmps9
    go_wp2_with fail
    refine Calls.mono KA.out ?_
    rintro e w2 ⟨rfl, hw⟩
    subst hw
    go_wp2_with fail
    refine Calls.mono KE.out ?_
    rintro e w3 ⟨u3, rfl, k3, hb3⟩
    have BW3 := Below.step BW hb3
    have R3 := R.stay hb3
    have hlt : Hid (w.heap.size < (w.alloc (.cells #[.int .i64 0, .slice none 0 0] 33)).heap.size) := R.lt
    obtain ⟨p3, q3, rfl, -⟩ := k3.rd
    have c0 := R3.cell 0
    have c1 := R3.cell 1
    have fz := R3.frozen
    simp at c0 c1
    clear R KE KA hb3 R3
    go_wp2
    refine bodyPost_ret (v := .agg #[.int .i64 0, .slice p3 pw.length q3]) (by simp [results, Tryd.results9, go_sem, c0, c1]) rfl ⟨_, rfl, ?_, (BW3.setCell (Nat.le_refl _) _).setCell (Nat.le_refl _) _⟩
    exact ((k3.set (a := ⟨w.heap.size, 0, none⟩) hlt.out _).set (a := ⟨w.heap.size, 1, none⟩) hlt.out _).lower (B' := w.heap.size) (by have := hlt.out; omega)
end Go.Proofs.YtflhoefocjmihaaDoor

/- Chapter 14: CheckToken of both sides: the code at every argument (the two ask what is held in orders of their own: hdC, hdS). What was there stays. -/
namespace Go.Proofs.YtflhoefocjmihaaDoor
open Go.RowKit

set_option maxRecDepth 4000 in
set_option maxHeartbeats 1000000 in
theorem specTk_k (x : SesD) (us : List Value) (tk : List UInt8) (p : Option Addr) (q : Nat) (w : World) (h : sessionC.rep w x us) (hr : Rd w p q tk) :
    Calls Tryd.prog 8 #[.agg us.toArray, .slice p tk.length q] w fun e w' => e = .returned (.int .i64 (tkC hdS x tk)) ∧ Below w.heap.size w w' := by
  obtain ⟨p1, q1, p3, q3, p4, q4, p5, q5, rfl, r1, r3, r4, r5⟩ := session_rep h
  have BW := alloc_below w (.cells #[.slice p1 x.1.length q1, .int .i64 x.2.1, .slice p3 x.2.2.1.length q3, .slice p4 x.2.2.2.1.length q4, .slice p5 x.2.2.2.2.length q5] 27)
  have A := AtSes.new w (t := 27) (p1 := p1) (q1 := q1) (p3 := p3) (q3 := q3) (p4 := p4) (q4 := q4) (p5 := p5) (q5 := q5) (x := x)
  have K1 := l14Fault_c w.heap.size 0 p1 p3 p4 p5 q1 q3 q4 q5 x _ A (r3.keep BW) (r4.keep BW) (r5.keep BW)
  have R1 : Hid (Rd w p1 q1 x.1) := r1
  have RT : Hid (Rd w p q tk) := hr
  have HA : Hid (∀ V, Below (w.alloc (.cells #[.slice p1 x.1.length q1, .int .i64 x.2.1, .slice p3 x.2.2.1.length q3, .slice p4 x.2.2.2.1.length q4, .slice p5 x.2.2.2.2.length q5] 27)).heap.size (w.alloc (.cells #[.slice p1 x.1.length q1, .int .i64 x.2.1, .slice p3 x.2.2.1.length q3, .slice p4 x.2.2.2.1.length q4, .slice p5 x.2.2.2.2.length q5] 27)) V → AtSes V w.heap.size 0 p1 q1 p3 q3 p4 q4 p5 q5 x) := fun V hV => A.keep hV
  have HS : Hid (seF hdS x = 0 → Ses x) := seS_iff.1
  have HE : Hid (tkC hdS x tk = if seF hdS x = 0 then (if sameB tk (biN x.1) then 0 else 7) else seF hdS x) := rfl
  clear h r1 r3 r4 r5 A hr
  go_enter Tryd.func8, Tryd.ntmps8
  go_wp2_with fail
  refine K1.mono ?_
  rintro e w1 ⟨rfl, hb⟩
  have A1 := HA.out w1 hb
  replace BW := Below.step BW hb
  clear K1 hb HA
  by_cases h0 : seF hdS x = 0
  case neg =>
    have dk : (seF hdS x != 0) = true := by rw [bne_iff_ne]; exact h0
    have hz : Hid (tkC hdS x tk = seF hdS x) := by show _ = _; rw [HE.out, if_neg h0]
    clear HE HS h0 A1
    go_wp2_with fail
    go_ret
    exact ⟨by rw [hz.out]; rfl, BW⟩
  have hS := HS.out h0
  have hz : Hid (tkC hdS x tk = if sameB tk (biN x.1) then 0 else 7) := by show _ = _; rw [HE.out, if_pos h0]
  have K2 := l13Bind_c p1 q1 x.1 w1 (R1.out.keep BW) (by rw [hS.len]; decide)
  rw [h0]
  have c0 := A1.c0
  clear HE HS h0 hS A1
  go_wp2_with fail
  refine K2.mono ?_
  rintro e w2 ⟨u, rfl, ku, hb⟩
  replace BW := Below.step BW hb
  obtain ⟨pu, qu, rfl, ru⟩ := ku.rd
  have KS := l1Same_c p pu q qu tk (biN x.1) w2 (RT.out.keep BW) ru
  clear K2 hb ku ru c0
  go_wp2_with fail
  refine KS.mono ?_
  rintro e w3 ⟨rfl, hw⟩
  rw [hw]
  clear hw w3 KS
  cases hs : sameB tk (biN x.1)
  · have hz2 : Hid (tkC hdS x tk = 7) := by show _ = _; rw [hz.out, hs]; rfl
    clear hz
    go_wp2_with fail
    go_ret
    exact ⟨by rw [hz2.out]; rfl, BW⟩
  · have hz2 : Hid (tkC hdS x tk = 0) := by show _ = _; rw [hz.out, hs]; rfl
    clear hz
    go_wp2_with fail
    go_ret
    exact ⟨by rw [hz2.out]; rfl, BW⟩
set_option maxRecDepth 4000 in
set_option maxHeartbeats 1000000 in
theorem implTk_k (x : SesD) (us : List Value) (tk : List UInt8) (p : Option Addr) (q : Nat) (w : World) (h : sessionC.rep w x us) (hr : Rd w p q tk) (hT : Tabs w) :
    Calls Tryd.prog 6 #[.agg us.toArray, .slice p tk.length q] w fun e w' => e = .returned (.int .i64 (tkC hdC x tk)) ∧ Below w.heap.size w w' := by
  obtain ⟨p1, q1, p3, q3, p4, q4, p5, q5, rfl, r1, r3, r4, r5⟩ := session_rep h
  have BW := alloc_below w (.cells #[.slice p1 x.1.length q1, .int .i64 x.2.1, .slice p3 x.2.2.1.length q3, .slice p4 x.2.2.2.1.length q4, .slice p5 x.2.2.2.2.length q5] 27)
  have R := Arr.new w [.slice p1 x.1.length q1, .int .i64 x.2.1, .slice p3 x.2.2.1.length q3, .slice p4 x.2.2.2.1.length q4, .slice p5 x.2.2.2.2.length q5] 27
  have c0 := (R.cell 0).trans (show _ = some _ from rfl)
  have c1 := (R.cell 1).trans (show _ = some _ from rfl)
  have c2 := (R.cell 2).trans (show _ = some _ from rfl)
  have c3 := (R.cell 3).trans (show _ = some _ from rfl)
  have c4 := (R.cell 4).trans (show _ = some _ from rfl)
  have K1 := sessFault_k x _ _ (sessionC.keep h BW)
  have R1 : Hid (Rd w p1 q1 x.1) := r1
  have RT : Hid (Rd w p q tk) := hr
  have HT : Hid (Tabs w) := hT
  have HS : Hid (seF hdC x = 0 → Ses x) := seC_iff.1
  have HE : Hid (tkC hdC x tk = if seF hdC x = 0 then (if sameB tk (biN x.1) then 0 else 7) else seF hdC x) := rfl
  clear h r1 r3 r4 r5 hr hT
  go_enter Tryd.func6, Tryd.ntmps6
  go_wp2_with fail
  refine K1.mono ?_
  rintro e w1 ⟨rfl, hb⟩
  replace R := R.stay hb
  replace BW := Below.step BW hb
  clear K1 hb c0 c1 c2 c3 c4
  by_cases h0 : seF hdC x = 0
  case neg =>
    have dk : (seF hdC x != 0) = true := by rw [bne_iff_ne]; exact h0
    have hz : Hid (tkC hdC x tk = seF hdC x) := by show _ = _; rw [HE.out, if_neg h0]
    clear HE HS h0 R
    go_wp2_with fail
    go_ret
    exact ⟨by rw [hz.out]; rfl, BW⟩
  have hS := HS.out h0
  have hz : Hid (tkC hdC x tk = if sameB tk (biN x.1) then 0 else 7) := by show _ = _; rw [HE.out, if_pos h0]
  have K2 := implBi_c p1 q1 x.1 w1 (R1.out.keep BW) (HT.out.keep BW)
  rw [show biD x.1 = (0, biN x.1) by rw [biD, show is32 x.1 = true by simp [is32, hS.len]]; rfl] at K2
  rw [h0]
  have c0 := (R.cell 0).trans (show _ = some _ from rfl)
  clear HE HS h0 hS
  go_wp2_with fail
  refine K2.mono ?_
  rintro e w2 ⟨u, rfl, ku, hb⟩
  replace BW := Below.step BW hb
  obtain ⟨pu, qu, rfl, ru⟩ := ku.rd
  have sf1 := bytes_f1
  have KS := implSame_c p pu q qu tk (biN x.1) w2 (RT.out.keep BW) ru
  clear K2 hb ku ru c0 R
  go_wp2_with fail
  refine KS.mono ?_
  rintro e w3 ⟨rfl, hb⟩
  replace BW := Below.step BW hb
  clear hb KS
  cases hs : sameB tk (biN x.1)
  · have hz2 : Hid (tkC hdC x tk = 7) := by show _ = _; rw [hz.out, hs]; rfl
    clear hz
    go_wp2_with fail
    go_ret
    exact ⟨by rw [hz2.out]; rfl, BW⟩
  · have hz2 : Hid (tkC hdC x tk = 0) := by show _ = _; rw [hz.out, hs]; rfl
    clear hz
    go_wp2_with fail
    go_ret
    exact ⟨by rw [hz2.out]; rfl, BW⟩
end Go.Proofs.YtflhoefocjmihaaDoor

