/- What the laws ask of lists of certificates: how great they are (szCertS), and (where a law has it) their marks. -/
import Derived.Test.YtklglpmlfboglabCertC
import Derived.Test.YtklglpmlfboglabWin
namespace Go.Proofs.Ytklglpmlfboglab
open Go.ChangeShapes Go.WideShapes Go.ChangeAt Go.RowKit

theorem szCertS_b (l : List CertD) (p : Option Addr) (q : Nat) (left : Int) (w : World) (hr : RdL certC w p q l) (h0 : 0 ≤ left) (h1 : left ≤ 1048576) :
    Calls Try.prog 11 #[.slice p l.length q, .int .i64 left] w fun e w' => e = .returned (.int .i64 (szR l.length left)) ∧ Below w.heap.size w w' := by
  refine Calls.mono (szCertS_c p q l.length left w hr.1 hr.2.1 h0 h1) ?_
  rintro e w' ⟨rfl, rfl⟩
  exact ⟨rfl, Below.refl _ _⟩
set_option maxRecDepth 4000 in
set_option maxHeartbeats 1000000 in
theorem markCertS_c (e0 : TypeId) (l : List CertD) (B : Nat) (v : Value) (xs : List Value) (fp : List Nat) (m : Nat) (w : World) (ho : OwnL e0 certC w B v l xs fp) (hm : m + 3 * l.length ≤ 1000000000) :
    Calls Try.prog 21 #[v, .int .i64 m] w fun e w' => e = .returned (.int .i64 ((m + 3 * l.length : Nat) : Int)) ∧ True ∧ Only (v.ownBlock.toList ++ fp) w w' := by
  obtain ⟨p, q, rfl, hrd⟩ := ho.rd
  have hq1 : l.length ≤ q := hrd.1
  have hq2 : q ≤ 2 ^ 63 - 1 := hrd.2.1
  have HM : Hid (m + 3 * l.length ≤ 1000000000) := hm
  have hrow : w.ownsRow B e0 3 (.slice p l.length q) l.length xs := ho.row
  have HXL : Hid (xs.length = l.length * 3) := hrow.1
  clear hm hrd ho
  go_enter Try.func21, Try.ntmps21
  go_wp2_with fail
  go_loopw [1, 5] (fun c i wr => ∃ (k : Nat) (ys : List Value), k ≤ l.length ∧ i = .int .i64 k ∧ c = .int .i64 ((m + 3 * k : Nat) : Int) ∧ ys.length = l.length * 3 ∧ wr.ownsRow B e0 3 (.slice p l.length q) l.length ys ∧ Only ((Value.slice p l.length q).ownBlock.toList ++ fp) w wr)
    (fun _ i _ => l.length - (intOf i).toNat)
  case atStart => exact ⟨0, xs, Nat.zero_le _, rfl, by simp, HXL.out, hrow, Only.refl _ _⟩
  case round =>
    clear hrow HXL
    obtain ⟨k, ys, hk, rfl, rfl, hyl, hrow, hon⟩ := hrel
    by_cases hlt : k < l.length
    · have hkI : (k : Int) < (l.length : Int) := by omega
      have hgf : ∃ g, p = some ⟨g, 0, none⟩ := by
        rcases hrow.2 with ⟨h1, h2⟩ | ⟨g, c, cur, h1, -⟩
        · omega
        · simp at h1; exact ⟨g, h1.1⟩
      obtain ⟨g, rfl⟩ := hgf
      have HYL : Hid (ys.length = l.length * 3) := hyl
      obtain ⟨y0, hy0⟩ : ∃ y, ys[k * 3]? = some y := ⟨ys[k * 3]'(by omega), by rw [List.getElem?_eq_getElem]⟩
      obtain ⟨y1, hy1⟩ : ∃ y, ys[k * 3 + 1]? = some y := ⟨ys[k * 3 + 1]'(by omega), by rw [List.getElem?_eq_getElem]⟩
      obtain ⟨y2, hy2⟩ : ∃ y, ys[k * 3 + 2]? = some y := ⟨ys[k * 3 + 2]'(by omega), by rw [List.getElem?_eq_getElem]⟩
      have c0 := (World.ownsRow.cellAt hrow (k * 3) (by omega)).trans hy0
      have c1 := (World.ownsRow.cellAt hrow (k * 3 + 1) (by omega)).trans hy1
      have c2 := (World.ownsRow.cellAt hrow (k * 3 + 2) (by omega)).trans hy2
      have fz := World.ownsRow.frozenAt hrow
      generalize hMk : m + 3 * k = mk at *
      have HMk : Hid (m + 3 * k = mk) := hMk
      clear hMk hyl hy0 hy1 hy2
      have hmkI : (mk : Int) ≤ 1000000000 := by have := HM.out; have := HMk.out; omega
      have R1 := World.ownsRow.stored hrow (k * 3) (.int .i64 (mk : Int))
      have R2 := World.ownsRow.stored R1.1 (k * 3 + 1) (.int .i64 ((mk : Int) + 1))
      have R3 := World.ownsRow.stored R2.1 (k * 3 + 2) (.int .i64 ((mk : Int) + 1 + 1))
      have hon2 := hon.trans (((Only.grown R1.2).more (fun j hj => List.mem_append_left fp (by simpa [Value.ownBlock] using hj))).trans (((Only.grown R2.2).more (fun j hj => List.mem_append_left fp (by simpa [Value.ownBlock] using hj))).trans ((Only.grown R3.2).more (fun j hj => List.mem_append_left fp (by simpa [Value.ownBlock] using hj)))))
      have R31 := R3.1
      have HE : Hid ((mk : Int) + 1 + 1 + 1 = ((m + 3 * (k + 1) : Nat) : Int)) := by show _ = _; have := HMk.out; omega
      have HYL2 : Hid ((((ys.set (k * 3) (.int .i64 (mk : Int))).set (k * 3 + 1) (.int .i64 ((mk : Int) + 1))).set (k * 3 + 2) (.int .i64 ((mk : Int) + 1 + 1))).length = l.length * 3) := by show _ = _; rw [List.length_set, List.length_set, List.length_set]; exact HYL.out
      clear hrow hon R1 R2 R3
      go_wp2_with fail
      go_roundw
      case rel => exact ⟨k + 1, _, by omega, by go_num, by rw [← HE.out], HYL2.out, R31, hon2⟩
      case measure => simp [intOf]; omega
    · have e : k = l.length := by omega
      subst e
      go_wp2_with fail
      go_ret
      exact ⟨rfl, trivial, hon⟩
end Go.Proofs.Ytklglpmlfboglab

