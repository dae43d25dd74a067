/- PackHello of the specification, at every argument. What was there stays. -/
import Derived.Test.YtpbkncliepkhaaaHelS
namespace Go.Proofs.Ytpbkncliepkhaaa
open Go.ChangeShapes Go.WideShapes Go.ChangeAt Go.RowKit

theorem msgR_own {w : World} {B : Nat} {c k : Int} {bs : List UInt8} {u : Value} (h : Own w B u bs) : msgResultC.own w B (c, k, bs) [.int .i64 c, .int .i64 k, u] ([] ++ ([] ++ u.ownBlock.toList)) :=
  own_pair 0 own_int (own_pair 0 own_int ⟨u, rfl, h, rfl⟩ lt_nil (fun _ _ => Nat.zero_le _)) lt_nil (fun _ _ => Nat.zero_le _)
set_option maxRecDepth 4000 in
set_option maxHeartbeats 1000000 in
theorem specPh_k (k : Int) (h : HelloD) (us : List Value) (w : World) (r : helloC.rep w h us) :
    Calls Try.prog 14 #[.int .i64 k, .agg us.toArray] w fun e w' => ∃ us fp, e = .returned (.agg us.toArray) ∧ msgResultC.own w' w.heap.size (phD k h) us fp ∧ Below w.heap.size w w' := by
  obtain ⟨p, q, rfl, rr⟩ := hello_rep r
  have HR : Hid (Rd w p q h.1) := rr
  have BW := Below.mk (alloc_below w (.cells #[.slice p h.1.length q, .int .i64 h.2.1, .int .i64 h.2.2] 29)) (.cells #[.int .i64 0, .int .i64 0, .slice none 0 0] 35)
  have A := (Arr.new w [.slice p h.1.length q, .int .i64 h.2.1, .int .i64 h.2.2] 29).old _ (.cells #[.int .i64 0, .int .i64 0, .slice none 0 0] 35)
  have R := Arr.new (w.alloc (.cells #[.slice p h.1.length q, .int .i64 h.2.1, .int .i64 h.2.2] 29)) [.int .i64 0, .int .i64 0, .slice none 0 0] 35
  rw [size_alloc] at R
  clear r rr
  have KF := l10Fault_c w.heap.size h p q _ (fun i u hu => (A.cell i).trans hu)
  cases hk : hkB k
  · have HE : Hid (phD k h = (3, 0, [])) := by show _ = _; unfold phD phC; simp [hk]
    go_enter Try.func14, Try.ntmps14
    go_wp2_with fail
    refine (l10Kind_c k _).mono ?_
    rintro e w1 ⟨rfl, hw⟩
    subst w1
    rw [hk]
    have c0 := (R.cell 0).trans (show _ = some _ from rfl)
    have c1 := (R.cell 1).trans (show _ = some _ from rfl)
    have c2 := (R.cell 2).trans (show _ = some _ from rfl)
    have fc := R.frozen
    clear R A
    go_wp2_with fail
    exact bodyPost_ret (v := .agg #[.int .i64 3, .int .i64 0, .slice none 0 0]) (by simp [results, Try.results14, go_sem]) rfl ⟨[.int .i64 3, .int .i64 0, .slice none 0 0], _, rfl, by rw [HE.out]; exact msgR_own (Own_nil _ _), Below.mk (alloc_below _ _) _⟩
  · by_cases hc : hfC h = 0
    · have HE : Hid (phD k h = (0, k, hpL h)) := by show _ = _; unfold phD phC; simp [hk, hc]
      rw [hc] at KF
      have HC : Hid (hfC h = 0) := hc
      clear hc
      go_enter Try.func14, Try.ntmps14
      go_wp2_with fail
      refine (l10Kind_c k _).mono ?_
      rintro e w1 ⟨rfl, hw⟩
      subst w1
      rw [hk]
      go_wp2_with fail
      refine KF.mono ?_
      rintro e w1 ⟨rfl, hw⟩
      subst w1
      have hz : Hid (((w.alloc (.cells #[.slice p h.1.length q, .int .i64 h.2.1, .int .i64 h.2.2] 29)).alloc (.cells #[.int .i64 0, .int .i64 0, .slice none 0 0] 35)).heap.size = w.heap.size + 2) := by show _ = _; rw [size_alloc, size_alloc]
      go_wp2_with fail
      refine (l10Pack_c k w.heap.size h p q _ A (HR.out.keep BW) HC.out).mono ?_
      rintro e w2 ⟨u2, rfl, k2, hb2⟩
      rw [hz.out] at k2
      obtain ⟨a2, cc2, rfl, -⟩ := k2.rd
      replace R := R.stay hb2
      replace BW := Below.step BW hb2
      have c0 := (R.cell 0).trans (show _ = some _ from rfl)
      have c1 := (R.cell 1).trans (show _ = some _ from rfl)
      have c2 := (R.cell 2).trans (show _ = some _ from rfl)
      have fc := R.frozen
      clear R A hb2
      go_wp2_with fail
      exact bodyPost_ret (v := .agg #[.int .i64 0, .int .i64 k, .slice a2 (hpL h).length cc2]) (by simp [results, Try.results14, go_sem, c0, c1, c2]) rfl ⟨[.int .i64 0, .int .i64 k, .slice a2 (hpL h).length cc2], _, rfl, by rw [HE.out]; exact msgR_own ((((k2.set (Nat.lt_succ_self _) _).set (Nat.lt_succ_self _) _).set (Nat.lt_succ_self _) _).lower (Nat.le_add_right _ 2)), (((BW.setCell (Nat.le_succ _) _).setCell (Nat.le_succ _) _).setCell (Nat.le_succ _) _)⟩
    · have HE : Hid (phD k h = (hfC h, 0, [])) := by show _ = _; unfold phD phC; simp [hk, hc]
      have hne : (hfC h != 0) = true := by rw [bne_iff_ne]; exact hc
      clear hc
      generalize hfC h = ac at *
      go_enter Try.func14, Try.ntmps14
      go_wp2_with fail
      refine (l10Kind_c k _).mono ?_
      rintro e w1 ⟨rfl, hw⟩
      subst w1
      rw [hk]
      go_wp2_with fail
      refine KF.mono ?_
      rintro e w1 ⟨rfl, hw⟩
      subst w1
      have c0 := (R.cell 0).trans (show _ = some _ from rfl)
      have c1 := (R.cell 1).trans (show _ = some _ from rfl)
      have c2 := (R.cell 2).trans (show _ = some _ from rfl)
      have fc := R.frozen
      clear R A
      go_wp2_with fail
      exact bodyPost_ret (v := .agg #[.int .i64 ac, .int .i64 0, .slice none 0 0]) (by simp [results, Try.results14, go_sem]) rfl ⟨[.int .i64 ac, .int .i64 0, .slice none 0 0], _, rfl, by rw [HE.out]; exact msgR_own (Own_nil _ _), Below.mk (alloc_below _ _) _⟩
end Go.Proofs.Ytpbkncliepkhaaa

