/- The contracts of chapter 6's functions on messages in the program: MsgFault, PackMsg, PackMsgs, UnpackMsgs, SameMsgs: code, place, bytes and messages, at every argument. What was there stays. -/
import Derived.Test.YtpbkncliepkhaaaJoint13
import Derived.Test.YtpbkncliepkhaaaWireJ
namespace Go.Proofs.Ytpbkncliepkhaaa
open Go.ChangeShapes Go.WideShapes Go.ChangeAt Go.RowKit

theorem implMF_c (a : MsgD) (p : Option Addr) (q : Nat) (w : World) (_hr : Rd w p q a.2) :
    Calls Try.prog 17 #[.agg #[.int .i64 a.1, .slice p a.2.length q]] w fun e w' => e = .returned (.int .i64 (faultW a.1 a.2.length)) ∧ Below w.heap.size w w' := implMF_n a.1 a.2.length q p w



set_option maxRecDepth 4000 in
set_option maxHeartbeats 1000000 in
theorem sameMsg_c (x y : MsgD) (px py : Option Addr) (qx qy : Nat) (w : World) (rx : Rd w px qx x.2) (ry : Rd w py qy y.2) :
    Calls Try.prog 46 #[.agg #[.int .i64 x.1, .slice px x.2.length qx], .agg #[.int .i64 y.1, .slice py y.2.length qy]] w fun e w' => e = .returned (.bool (decide (x = y))) ∧ Below w.heap.size w w' := by
  obtain ⟨k, bs⟩ := x
  obtain ⟨k2, bs2⟩ := y
  simp only at rx ry ⊢
  have B0 := Below.mk (alloc_below w (.cells #[.int .i64 k, .slice px bs.length qx] 25)) (.cells #[.int .i64 k2, .slice py bs2.length qy] 25)
  have K : Hid (∀ W, Below w.heap.size w W → Calls Try.prog 68 #[.slice px bs.length qx, .slice py bs2.length qy] W fun e w' => e = .returned (.bool (sameB bs bs2)) ∧ Below W.heap.size W w') := fun W h => implSame_c px py qx qy bs bs2 W (rx.keep h) (ry.keep h)
  by_cases h1 : k = k2
  · have h1I : (k == k2) = true := by simp [h1]
    have HD : Hid (decide ((k, bs) = (k2, bs2)) = sameB bs bs2) := by
      show _ = _
      rw [Bool.eq_iff_iff]; simp [sameB, h1]
    rw [HD.out]
    clear h1 HD
    go_enter Try.func46, Try.ntmps46
    go_wp2_with fail
    refine (K.out _ B0).mono ?_
    rintro e w2 ⟨rfl, hb⟩
    have B2 := Below.step B0 hb
    go_wp2_with fail
    go_ret
    exact ⟨rfl, B2⟩
  · have h1I : (k == k2) = false := by simp [h1]
    have HD : Hid (decide ((k, bs) = (k2, bs2)) = false) := by show _ = _; simp [h1]
    rw [HD.out]
    clear h1 HD
    go_enter Try.func46, Try.ntmps46
    go_wp2_with fail
    go_ret
    exact ⟨rfl, B0⟩

set_option maxRecDepth 4000 in
set_option maxHeartbeats 1000000 in
theorem equalFunc_c (a b : List MsgD) (p p2 : Option Addr) (q q2 : Nat) (w : World) (hr : RdL msgC w p q a) (hr2 : RdL msgC w p2 q2 b) :
    Calls Try.prog 45 #[.slice p a.length q, .slice p2 b.length q2, .func (.func 46) #[] #[]] w fun e w' => e = .returned (.bool (sameM a b)) ∧ Below w.heap.size w w' := by
  have HR : Hid (RdL msgC w p q a) := hr
  have HR2 : Hid (RdL msgC w p2 q2 b) := hr2
  have hq1 : a.length ≤ q := hr.1
  have hq2 : q ≤ 2 ^ 63 - 1 := hr.2.1
  clear hr hr2
  by_cases hl : a.length = b.length
  · have hd : ((a.length : Int) != (b.length : Int)) = false := by rw [bne_eq_false_iff_eq]; omega
    have HL : Hid (a.length = b.length) := hl
    clear hl
    go_enter Try.func45, Try.ntmps45
    go_wp2_with fail
    go_loopw [17] (fun i wr => ∃ k : Nat, k ≤ a.length ∧ i = .int .i64 k ∧ a.take k = b.take k ∧ Below w.heap.size w wr)
      (fun i _ => a.length - (intOf i).toNat)
    case atStart => exact ⟨0, Nat.zero_le _, rfl, by simp, Below.refl _ _⟩
    case round =>
      obtain ⟨k, hk, rfl, htk, BW⟩ := hrel
      have HTK : Hid (a.take k = b.take k) := htk
      clear htk
      by_cases hlt : k < a.length
      · have hI : (k : Int) < (a.length : Int) := by omega
        have hI2 : (k : Int) < (b.length : Int) := by have := HL.out; omega
        obtain ⟨b1, o1, e1, hc⟩ := (HR.out.keep BW).2.2.2 (by omega)
        have HP1 : Hid (p = some ⟨b1, o1, none⟩) := e1
        rw [HP1.out]
        obtain ⟨b2, o2, e2, hc2⟩ := (HR2.out.keep BW).2.2.2 (by have := HL.out; omega)
        have HP2 : Hid (p2 = some ⟨b2, o2, none⟩) := e2
        rw [HP2.out]
        obtain ⟨x, hx⟩ : ∃ x, a[k]? = some x := ⟨a[k], by simp [hlt]⟩
        obtain ⟨y, hy⟩ : ∃ y, b[k]? = some y := ⟨b[k]'(by have := HL.out; omega), by simp [show k < b.length by have := HL.out; omega]⟩
        obtain ⟨us, hrep, hcell⟩ := hc k x hx
        obtain ⟨px, qx, rfl, rx⟩ := msg_rep hrep
        obtain ⟨us2, hrep2, hcell2⟩ := hc2 k y hy
        obtain ⟨py, qy, rfl, ry⟩ := msg_rep hrep2
        have c0 := hcell 0 _ rfl
        have c1 := hcell 1 _ rfl
        have d0 := hcell2 0 _ rfl
        have d1 := hcell2 1 _ rfl
        rw [show msgC.n = 2 from rfl] at c0 c1 d0 d1
        rw [Nat.add_zero] at c0 d0
        have K : Hid (∀ W, Below wr.heap.size wr W → Calls Try.prog 46 #[.agg #[.int .i64 x.1, .slice px x.2.length qx], .agg #[.int .i64 y.1, .slice py y.2.length qy]] W fun e w' => e = .returned (.bool (decide (x = y))) ∧ Below W.heap.size W w') := fun W h => sameMsg_c x y px py qx qy W (rx.keep h) (ry.keep h)
        have d0' := cell_keep d0 (alloc_below wr (.cells #[.int .i64 x.1, .slice px x.2.length qx] 25))
        have d1' := cell_keep d1 (alloc_below wr (.cells #[.int .i64 x.1, .slice px x.2.length qx] 25))
        have B0 := Below.mk (alloc_below wr (.cells #[.int .i64 x.1, .slice px x.2.length qx] 25)) (.cells #[.int .i64 y.1, .slice py y.2.length qy] 25)
        have HX : Hid (a[k]? = some x) := hx
        have HY : Hid (b[k]? = some y) := hy
        have HTN : Hid (x = y → a.take (k + 1) = b.take (k + 1)) := fun e => by rw [List.take_add_one, List.take_add_one, HTK.out, hx, hy, e]
        clear hc hcell hrep hc2 hcell2 hrep2 e1 e2 hx hy rx ry d0 d1 HTK
        go_wp2_with fail
        refine (K.out _ B0).mono ?_
        rintro e w2 ⟨rfl, hb⟩
        have B2 := Below.step (Below.step BW B0) hb
        clear K B0 hb BW c0 c1 d0' d1'
        by_cases hxy : x = y
        · have hE : Hid (decide (x = y) = true) := by show _ = _; simp [hxy]
          have HT2 : Hid (a.take (k + 1) = b.take (k + 1)) := HTN.out hxy
          rw [hE.out]
          clear HTN hE hxy
          go_wp2_with fail
          go_roundw
          case rel => exact ⟨k + 1, by omega, by go_num, HT2.out, B2⟩
          case measure => simp [intOf]; omega
        · have hE : Hid (decide (x = y) = false) := by show _ = _; simp [hxy]
          have hs : Hid (sameM a b = false) := sameM_at HX.out HY.out hxy
          rw [hE.out]
          clear HTN hE hxy
          go_wp2_with fail
          go_ret
          exact ⟨by rw [hs.out]; rfl, B2⟩
      · have e : k = a.length := by omega
        subst e
        have hs : Hid (sameM a b = true) := by
          have h := HTK.out
          rw [List.take_length, HL.out, List.take_length] at h
          show _ = _
          simp [sameM, h]
        go_wp2_with fail
        go_ret
        exact ⟨by rw [hs.out]; rfl, BW⟩
  · have hd : ((a.length : Int) != (b.length : Int)) = true := by rw [bne_iff_ne]; omega
    have hs : Hid (sameM a b = false) := by show _ = _; simp only [sameM, decide_eq_false_iff_not]; intro e; exact hl (by rw [e])
    go_enter Try.func45, Try.ntmps45
    go_wp2
    go_ret
    exact ⟨by rw [hs.out]; rfl, Below.refl _ _⟩
set_option maxRecDepth 4000 in
set_option maxHeartbeats 400000 in
theorem implSM_c (a b : List MsgD) (p p2 : Option Addr) (q q2 : Nat) (w : World) (hr : RdL msgC w p q a) (hr2 : RdL msgC w p2 q2 b) :
    Calls Try.prog 11 #[.slice p a.length q, .slice p2 b.length q2] w fun e w' => e = .returned (.bool (sameM a b)) ∧ Below w.heap.size w w' := by
  go_enter Try.func11, Try.ntmps11
  go_wp2_with fail
  refine (equalFunc_c a b p p2 q q2 w hr hr2).mono ?_
  rintro e w' ⟨rfl, hb⟩
  go_wp2
  go_ret
  exact ⟨rfl, hb⟩
end Go.Proofs.Ytpbkncliepkhaaa

