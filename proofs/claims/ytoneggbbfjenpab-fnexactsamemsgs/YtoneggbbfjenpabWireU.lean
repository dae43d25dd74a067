/- The contracts of what reads messages in the specification: l6Unpack, UnpackMsgs (code, place, messages, each of which owns its memory), SameMsgs. What was there stays. -/
import Derived.Test.YtoneggbbfjenpabWireS
import Derived.Deep.AppendLies
namespace Go.Proofs.Ytoneggbbfjenpab
open Go.ChangeShapes Go.WideShapes Go.ChangeAt Go.RowKit



def sameM (a b : List MsgD) : Bool := decide (a = b)
theorem sameM_at {a b : List MsgD} {k : Nat} {x y : MsgD} (hx : a[k]? = some x) (hy : b[k]? = some y) (h : x ≠ y) : sameM a b = false := by
  simp only [sameM, decide_eq_false_iff_not]
  intro e
  subst e
  rw [hx] at hy
  cases hy
  exact h rfl
set_option maxRecDepth 4000 in
set_option maxHeartbeats 1000000 in
theorem specSM_c (a b : List MsgD) (p p2 : Option Addr) (q q2 : Nat) (w : World) (hr : RdL msgC w p q a) (hr2 : RdL msgC w p2 q2 b) :
    Calls Try.prog 24 #[.slice p a.length q, .slice p2 b.length q2] w fun e w' => e = .returned (.bool (sameM a b)) ∧ Below w.heap.size w w' := by
  have HR : Hid (RdL msgC w p q a) := hr
  have HR2 : Hid (RdL msgC w p2 q2 b) := hr2
  have hq1 : a.length ≤ q := hr.1
  have hq2 : q ≤ 2 ^ 63 - 1 := hr.2.1
  clear hr hr2
  by_cases hl : a.length = b.length
  · have hd : ((a.length : Int) != (b.length : Int)) = false := by rw [bne_eq_false_iff_eq]; omega
    have HL : Hid (a.length = b.length) := hl
    clear hl
    go_enter Try.func24, Try.ntmps24
    go_wp2_with fail
    go_loopw [5] (fun i wr => ∃ k : Nat, k ≤ a.length ∧ i = .int .i64 k ∧ a.take k = b.take k ∧ Below w.heap.size w wr)
      (fun i _ => a.length - (intOf i).toNat)
    case atStart => exact ⟨0, Nat.zero_le _, rfl, by simp, Below.refl _ _⟩
    case round =>
      obtain ⟨k, hk, rfl, htk, BW⟩ := hrel
      have HTK : Hid (a.take k = b.take k) := htk
      clear htk
      by_cases hlt : k < a.length
      · have hI : (k : Int) < (a.length : Int) := by omega
        have hI2 : (k : Int) < (b.length : Int) := by have := HL.out; omega
        obtain ⟨b1, o1, e1, hc⟩ := (HR.out.keep BW).2.2.2 (by omega)
        subst e1
        obtain ⟨b2, o2, e2, hc2⟩ := (HR2.out.keep BW).2.2.2 (by have := HL.out; omega)
        subst e2
        obtain ⟨x, hx⟩ : ∃ x, a[k]? = some x := ⟨a[k], by simp [hlt]⟩
        obtain ⟨y, hy⟩ : ∃ y, b[k]? = some y := ⟨b[k]'(by have := HL.out; omega), by simp [show k < b.length by have := HL.out; omega]⟩
        obtain ⟨us, hrep, hcell⟩ := hc k x hx
        obtain ⟨px, qx, rfl, rx⟩ := msg_rep hrep
        obtain ⟨us2, hrep2, hcell2⟩ := hc2 k y hy
        obtain ⟨py, qy, rfl, ry⟩ := msg_rep hrep2
        have c0 := hcell 0 _ rfl
        have c1 := hcell 1 _ rfl
        have d0 := hcell2 0 _ rfl
        have d1 := hcell2 1 _ rfl
        rw [show msgC.n = 2 from rfl] at c0 c1 d0 d1
        rw [Nat.add_zero] at c0 d0
        clear hc hcell hrep hc2 hcell2 hrep2
        by_cases h1 : x.1 = y.1
        · have h1I : (x.1 != y.1) = false := by rw [bne_eq_false_iff_eq]; exact h1
          by_cases h2 : x.2 = y.2
          · have hE : Hid (sameB x.2 y.2 = true) := by show _ = _; rw [h2]; simp [sameB]
            have hT : Hid (a.take (k + 1) = b.take (k + 1)) := by show _ = _; rw [List.take_add_one, List.take_add_one, HTK.out, hx, hy, show x = y from Prod.ext h1 h2]
            clear h1 h2
            go_wp2_with fail
            go_quiet ((go_at_call 36; exact Calls.quiet_of_same (l1Same_c px py qx qy x.2 y.2 _ rx ry)))
            rw [hE.out]
            go_wp2_with fail
            go_roundw
            case rel => first | exact ⟨k + 1, by omega, by go_num, hT.out, below_drewN BW _⟩ | ((repeat apply Exists.intro); refine ⟨?_, rfl⟩; exact ⟨k + 1, by omega, by go_num, hT.out, below_drewN BW _⟩)
            case measure => simp [intOf]; omega
          · have hE : Hid (sameB x.2 y.2 = false) := by show _ = _; simp [sameB, h2]
            have hs : Hid (sameM a b = false) := sameM_at hx hy (fun e => h2 (by rw [e]))
            clear h1 h2
            go_wp2_with fail
            go_quiet ((go_at_call 36; exact Calls.quiet_of_same (l1Same_c px py qx qy x.2 y.2 _ rx ry)))
            rw [hE.out]
            go_wp2_with fail
            go_ret
            exact ⟨by rw [hs.out]; rfl, below_drewN BW _⟩
        · have h1I : (x.1 != y.1) = true := by rw [bne_iff_ne]; exact h1
          have hs : Hid (sameM a b = false) := sameM_at hx hy (fun e => h1 (by rw [e]))
          clear h1
          go_wp2_with fail
          go_quiet (fail)
          go_wp2_with fail
          go_ret
          exact ⟨by rw [hs.out]; rfl, below_drewN BW _⟩
      · have e : k = a.length := by omega
        subst e
        have hs : Hid (sameM a b = true) := by
          have h := HTK.out
          rw [List.take_length, HL.out, List.take_length] at h
          show _ = _
          simp [sameM, h]
        go_wp2_with fail
        go_ret
        exact ⟨by rw [hs.out]; rfl, BW⟩
  · have hd : ((a.length : Int) != (b.length : Int)) = true := by rw [bne_iff_ne]; omega
    have hs : Hid (sameM a b = false) := by show _ = _; simp only [sameM, decide_eq_false_iff_not]; intro e; exact hl (by rw [e])
    go_enter Try.func24, Try.ntmps24
    go_wp2
    go_ret
    exact ⟨by rw [hs.out]; rfl, Below.refl _ _⟩
end Go.Proofs.Ytoneggbbfjenpab
