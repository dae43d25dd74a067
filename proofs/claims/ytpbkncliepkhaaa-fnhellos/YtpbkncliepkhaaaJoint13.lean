/- The contract of bytes.Clone: a copy in a row of its own. What was there stays. -/
import Derived.Test.YtpbkncliepkhaaaJoinI
import Derived.Handy
import Derived.Test.YtpbkncliepkhaaaJoint11
import Derived.Test.YtpbkncliepkhaaaArr
import Derived.BigQuiet
import Derived.Test.YtpbkncliepkhaaaJoint12
import Derived.Deep.AppendLies
namespace Go.Proofs.Ytpbkncliepkhaaa
open Go.ChangeShapes Go.WideShapes Go.ChangeAt Go.RowKit

set_option maxRecDepth 4000 in
set_option maxHeartbeats 1000000 in
theorem bytesClone_c (p : Option Addr) (q : Nat) (bs : List UInt8) (w : World) (hr : Rd w p q bs) (hl : bs.length ≤ 1000000) :
    Calls Try.prog 77 #[.slice p bs.length q] w fun e w' => ∃ u, e = .returned u ∧ Own w' w.heap.size u bs ∧ Below w.heap.size w w' := by
  cases p with
  | none =>
    have hq := hr.2.2.1 rfl
    have hb : bs = [] := List.eq_nil_of_length_eq_zero (by have := hr.1; omega)
    subst hb hq
    have hnil : ∀ w, (Go.binOp .eql 22 (.slice none 0 0) (.slice none 0 0)).run Try.prog w = .ok (.bool true) w := by intro w; kernel_rfl
    go_enter Try.func77, Try.ntmps77
    go_wp2
    go_ret
    exact ⟨_, rfl, Own_nil _ _, Below.refl _ _⟩
  | some ad =>
    have hnil : ∀ w, (Go.binOp .eql 22 (.slice (some ad) bs.length q) (.slice none 0 0)).run Try.prog w = .ok (.bool false) w := by intro w; kernel_rfl
    have hr2 := hr.keep (alloc_below w (Obj.cells #[] 5))
    have ho := none_own8 w w.heap.size (Nat.le_refl _)
    go_enter Try.func77, Try.ntmps77
    go_wp2_with (at_builtin; refine wpList_append_rd rfl (.tmp 5) (.tmp 6) rfl w.heap.size _ [] rfl ho (some ad) q bs rfl hr2 (by simp; omega) (by simp) ?_; intro v' w' ho' hg')
    have RB := (alloc_below w (Obj.cells #[] 5)).grown hg' (by simp) (fun k hk => ho.ge k hk)
    go_ret
    exact ⟨_, rfl, ho', RB⟩
end Go.Proofs.Ytpbkncliepkhaaa

/- The contracts of chapter 8's functions in the program, at every argument: code and number, or bytes. What was there stays. -/
namespace Go.Proofs.Ytpbkncliepkhaaa
open Go.ChangeShapes Go.WideShapes Go.ChangeAt Go.RowKit

theorem and1_u64 (a : Nat) (h : a < 18446744073709551616) : bits .and .u64 (a : Int) 1 = (a : Int) % 2 := by
  have e : ∀ n : Nat, n < 18446744073709551616 → (BitVec.ofInt 64 (n : Int)).toNat = n := fun n hn => by rw [BitVec.toNat_ofInt]; omega
  show IntKind.u64.wrap ((BitVec.ofInt 64 (a : Int) &&& BitVec.ofInt 64 ((1 : Nat) : Int)).toNat : Int) = _
  rw [BitVec.toNat_and, e a h, e 1 (by decide), Nat.and_one_is_mod, IntKind.wrap_u64]
  omega
theorem or_i64 (m b : Nat) (hm : m < 256) (h1 : b < 256) : bits .or .i64 ((m : Int) * 256) (b : Int) = ((m * 256 + b : Nat) : Int) := by
  have e : ∀ n : Nat, n < 18446744073709551616 → (BitVec.ofInt 64 (n : Int)).toNat = n := fun n hn => by rw [BitVec.toNat_ofInt]; omega
  have h2 : b < 2 ^ 8 := by omega
  rw [show ((m : Int) * 256) = ((m * 256 : Nat) : Int) by omega]
  show IntKind.i64.wrap ((BitVec.ofInt 64 ((m * 256 : Nat) : Int) ||| BitVec.ofInt 64 (b : Int)).toNat : Int) = _
  rw [BitVec.toNat_or, e _ (by omega), e b (by omega), show m * 256 = m <<< 8 by rw [Nat.shiftLeft_eq], ← Nat.shiftLeft_add_eq_or_of_lt h2, Nat.shiftLeft_eq, IntKind.wrap_i64]
  omega

theorem isElement_c (v : Int) (w : World) : Calls Try.prog 70 #[.int .i64 v] w fun e w' => e = .returned (.bool (inB v 1 65520)) ∧ w' = w := by
  by_cases h1 : 1 ≤ v
  · by_cases h2 : v ≤ 65520
    · rw [show inB v 1 65520 = true by simp [inB, h1, h2]]
      go_enter Try.func70, Try.ntmps70
      go_wp2
      go_ret
      exact ⟨rfl, rfl⟩
    · rw [show inB v 1 65520 = false by simp [inB, h2]]
      go_enter Try.func70, Try.ntmps70
      go_wp2
      go_ret
      exact ⟨rfl, rfl⟩
  · rw [show inB v 1 65520 = false by simp [inB, h1]]
    go_enter Try.func70, Try.ntmps70
    go_wp2
    go_ret
    exact ⟨rfl, rfl⟩
set_option maxRecDepth 4000 in
set_option maxHeartbeats 1000000 in
theorem implSb_c (v : Int) (w : World) :
    Calls Try.prog 72 #[.int .i64 v] w fun e w' => ∃ u, e = .returned (.agg #[.int .i64 (shbC v), u]) ∧ Own w' w.heap.size u (shbL v) ∧ Below w.heap.size w w' := by
  cases h1 : inB v 1 65520
  · rw [show shbC v = 3 by simp [shbC, h1], show shbL v = [] by simp [shbL, shbC, h1]]
    go_enter Try.func72, Try.ntmps72
    go_wp2_with fail
    refine (isElement_c v _).mono ?_
    rintro e w' ⟨rfl, rfl⟩
    rw [h1]
    go_wp2
    exact bodyPost_ret (v := .agg #[.int .i64 3, .slice none 0 0]) (by simp [results, Try.results72, go_sem]) rfl ⟨_, rfl, Own_nil _ _, alloc_below _ _⟩
  · obtain ⟨vn, rfl, -, hb2⟩ := nat_of_in h1 (by decide)
    rw [show shbC (vn : Int) = 0 by simp [shbC, h1], show shbL (vn : Int) = putB vn 2 by simp [shbL, shbC, h1]]
    have hl : (0 : Int) ≤ (vn : Int) / 256 := by omega
    have hh : (vn : Int) / 256 ≤ 255 := by omega
    go_enter Try.func72, Try.ntmps72
    go_wp2_with fail
    refine (isElement_c _ _).mono ?_
    rintro e w' ⟨rfl, hw⟩
    subst hw
    rw [h1]
    go_wp2_with fail
    refine bodyPost_ret (v := .agg #[.int .i64 0, .slice (some ⟨w.heap.size + 1, 0, none⟩) 2 2]) (by simp [results, Try.results72, go_sem]) rfl ⟨_, rfl, ?_, (alloc_below _ _).alloc (by simp) _⟩
    have h := World.ownsRow_lit (base := w.heap.size) (e := 5) (size := 1) (w.alloc (Obj.cells #[Value.int IntKind.i64 0, Value.slice (some { block := w.heap.size + 1, off := 0 }) 2 2] 105)) #[Value.int IntKind.u8 ((vn : Int) / 256), Value.int IntKind.u8 ((vn : Int) % 256)] 2 (by rw [size_alloc]; omega) (by unfold maxLen; decide) (by simp)
    rw [size_alloc] at h
    have e : (putB vn 2).map u8v = [Value.int IntKind.u8 ((vn : Int) / 256), Value.int IntKind.u8 ((vn : Int) % 256)] := by
      have e1 : (((vn / 256 ^ 1 % 256) % 256 : Nat) : Int) = (vn : Int) / 256 := by rw [Nat.pow_one]; omega
      have e2 : (((vn / 256 ^ 0 % 256) % 256 : Nat) : Int) = (vn : Int) % 256 := by rw [Nat.pow_zero, Nat.div_one]; omega
      simp only [putB, List.map_cons, List.map_nil, u8v, UInt8.toNat_ofNat']
      rw [← e1, ← e2]
    unfold Own
    rw [putB_len, e]
    exact h
set_option maxRecDepth 4000 in
set_option maxHeartbeats 1000000 in
theorem implBs_c (p : Option Addr) (q : Nat) (d : List UInt8) (w : World) (hr : Rd w p q d) :
    Calls Try.prog 63 #[.slice p d.length q] w fun x w' => x = .returned (.agg #[.int .i64 (bsC d), .int .i64 (bsV d)]) ∧ Below w.heap.size w w' := by
  by_cases h : d.length = 2
  · have d1 : ((d.length : Int) != 2) = false := by rw [bne_eq_false_iff_eq]; omega
    obtain ⟨b, o, rfl, hc⟩ := hr.2.2.2 (by omega)
    have c0 := hc 0 (by omega)
    have c1 := hc 1 (by omega)
    rw [Nat.add_zero] at c0
    have l2 : 2 ≤ d.length := by omega
    have HB : Hid (bsC d = if inB (getB d : Nat) 1 65520 then 0 else 3) := by show _ = _; rw [bsC, if_pos h]
    have HV : Hid (bsV d = if inB (getB d : Nat) 1 65520 then ((getB d : Nat) : Int) else 0) := by
      show _ = _
      rw [bsV, HB.out]
      cases inB ((getB d : Nat) : Int) 1 65520 <;> simp
    have a0 := at8_lo d 0
    have a1 := at8_hi d 0
    have b0 := at8_lo d 1
    have b1 := at8_hi d 1
    have HG : Hid (bits .or .i64 (at8 d 0 * 256) (at8 d 1) = ((getB d : Nat) : Int)) := by
      show _ = _
      match d, h with
      | [x, y], _ =>
        show bits .or .i64 ((x.toNat : Int) * 256) (y.toNat : Int) = _
        rw [or_i64 _ _ x.toNat_lt y.toNat_lt]
        simp [getB]
    rw [HB.out, HV.out]
    clear HB HV h hc hr
    generalize getB d = g at *
    generalize d.length = n at *
    generalize at8 d 0 = x0 at *
    generalize at8 d 1 = x1 at *
    have k0 := cell_keep c0 (alloc_below w (.cells #[.int .i64 0, .int .i64 0] 97))
    have k1 := cell_keep c1 (alloc_below w (.cells #[.int .i64 0, .int .i64 0] 97))
    clear c0 c1
    cases h1 : inB (g : Int) 1 65520
    · simp only [Bool.false_eq_true, if_false]
      go_enter Try.func63, Try.ntmps63
      go_wp2_with fail
      go_quiet (fail)
      rw [HG.out]
      go_wp2_with fail
      refine (isElement_c _ _).mono ?_
      rintro e w' ⟨rfl, hw⟩
      subst hw
      rw [h1]
      go_wp2
      refine bodyPost_ret (v := .agg #[.int .i64 3, .int .i64 0]) (by simp [results, Try.results63, go_sem]) rfl ⟨rfl, ?_⟩
      exact ((below_drewN (alloc_below w _) _).setCell (Nat.le_refl _) _).setCell (Nat.le_refl _) _
    · simp only [if_true]
      go_enter Try.func63, Try.ntmps63
      go_wp2_with fail
      go_quiet (fail)
      rw [HG.out]
      go_wp2_with fail
      refine (isElement_c _ _).mono ?_
      rintro e w' ⟨rfl, hw⟩
      subst hw
      rw [h1]
      go_wp2
      refine bodyPost_ret (v := .agg #[.int .i64 0, .int .i64 (g : Int)]) (by simp [results, Try.results63, go_sem]) rfl ⟨rfl, ?_⟩
      exact ((below_drewN (alloc_below w _) _).setCell (Nat.le_refl _) _).setCell (Nat.le_refl _) _
  · have d1 : ((d.length : Int) != 2) = true := by rw [bne_iff_ne]; omega
    rw [show bsC d = 5 by simp [bsC, h], show bsV d = 0 by simp [bsV, bsC, h]]
    clear h
    go_enter Try.func63, Try.ntmps63
    go_wp2
    exact bodyPost_ret (v := .agg #[.int .i64 5, .int .i64 0]) (by simp [results, Try.results63, go_sem]) rfl ⟨rfl, alloc_below _ _⟩
end Go.Proofs.Ytpbkncliepkhaaa

/- The contracts of what reads messages in the specification: l6Unpack, UnpackMsgs (code, place, messages, each of which owns its memory), SameMsgs. What was there stays. -/
namespace Go.Proofs.Ytpbkncliepkhaaa
open Go.ChangeShapes Go.WideShapes Go.ChangeAt Go.RowKit
theorem none_ownM (w : World) (B : Nat) (h : B ≤ w.heap.size) : OwnL 25 msgC (w.alloc (.cells #[] 25)) B (.slice (some ⟨w.heap.size, 0, none⟩) 0 0) [] [] [] :=
  ⟨World.ownsRow_lit (base := B) (e := 25) (size := 2) w #[] 0 h (by unfold maxLen; decide) (by simp), ⟨rfl, rfl⟩, by simp [Value.ownBlock]⟩
theorem nil_ownM (w : World) (B : Nat) : OwnL 25 msgC w B (.slice none 0 0) [] [] [] := ⟨World.ownsRow_nil _ _ _ _, ⟨rfl, rfl⟩, by simp [Value.ownBlock]⟩



def sameM (a b : List MsgD) : Bool := decide (a = b)
theorem sameM_at {a b : List MsgD} {k : Nat} {x y : MsgD} (hx : a[k]? = some x) (hy : b[k]? = some y) (h : x ≠ y) : sameM a b = false := by
  simp only [sameM, decide_eq_false_iff_not]
  intro e
  subst e
  rw [hx] at hy
  cases hy
  exact h rfl
end Go.Proofs.Ytpbkncliepkhaaa

