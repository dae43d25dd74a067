/- Lists of signatures that are copied, in the specification: l12CopySigns. What was there stays. -/
import Derived.Test.YtklglpmlfboglaaSignS
import Derived.Test.YtklglpmlfboglaaPad
import Derived.Test.YtklglpmlfboglaaJoint4
namespace Go.Proofs.Ytklglpmlfboglaa
open Go.ChangeShapes Go.WideShapes Go.ChangeAt Go.RowKit

theorem none_ownS (w : World) (B : Nat) (h : B ≤ w.heap.size) : OwnL 49 signC (w.alloc (.cells #[] 49)) B (.slice (some ⟨w.heap.size, 0, none⟩) 0 0) [] [] [] :=
  ⟨World.ownsRow_lit (base := B) (e := 49) (size := 3) w #[] 0 h (by unfold maxLen; decide) (by simp), ⟨rfl, rfl⟩, by simp [Value.ownBlock]⟩
theorem nil_ownS (w : World) (B : Nat) : OwnL 49 signC w B (.slice none 0 0) [] [] [] := ⟨World.ownsRow_nil _ _ _ _, ⟨rfl, rfl⟩, by simp [Value.ownBlock]⟩
set_option maxRecDepth 4000 in
set_option maxHeartbeats 2000000 in
theorem l12CopySigns_c (l : List SignD) (p : Option Addr) (q : Nat) (w : World) (hr : RdL signC w p q l) (hl : l.length ≤ 40) (hd : ∀ a ∈ l, a.2.2.length = 32) :
    Calls Try.prog 79 #[.slice p l.length q] w fun e w' => ∃ v xs fp, e = .returned v ∧ OwnL 49 signC w' w.heap.size v l xs fp ∧ Below w.heap.size w w' := by
  have HR : Hid (RdL signC w p q l) := hr
  have hq1 : l.length ≤ q := hr.1
  have hq2 : q ≤ 2 ^ 63 - 1 := hr.2.1
  have HD : Hid (∀ a ∈ l, a.2.2.length = 32) := hd
  have hln : (l.length : Int) ≤ 40 := by omega
  have O1 := none_ownS w w.heap.size (Nat.le_refl _)
  have BW := alloc_below w (.cells #[] 49)
  clear hr hl hd
  go_enter Try.func79, Try.ntmps79
  go_wp2_with fail
  go_loopw [3, 4] (fun v i wr => ∃ (k : Nat) (xs : List Value) (fp : List Nat), k ≤ l.length ∧ i = .int .i64 k ∧ OwnL 49 signC wr w.heap.size v (l.take k) xs fp ∧ Below w.heap.size w wr)
    (fun _ i _ => l.length - (intOf i).toNat)
  case atStart => exact ⟨0, [], [], Nat.zero_le _, rfl, O1, BW⟩
  case round =>
    clear O1 BW
    obtain ⟨k, xs, fp, hk, rfl, ho, BW⟩ := hrel
    by_cases hlt : k < l.length
    · have hI : (k : Int) < (l.length : Int) := by omega
      obtain ⟨b, o, e1, hc⟩ := (HR.out.keep BW).2.2.2 (by omega)
      subst e1
      obtain ⟨a, ha⟩ : ∃ a, l[k]? = some a := ⟨l[k], by simp [hlt]⟩
      obtain ⟨us, hrep, hcell⟩ := hc k a ha
      obtain ⟨pa, qa, rfl, ra⟩ := sign_rep hrep
      have m0 := hcell 0 _ rfl
      have m1 := hcell 1 _ rfl
      have m2 := hcell 2 _ rfl
      rw [show signC.n = 3 from rfl] at m0 m1 m2
      rw [Nat.add_zero] at m0
      have HTk : Hid (l.take (k + 1) = l.take k ++ [a]) := by show _ = _; rw [List.take_add_one, ha]; rfl
      have HA : Hid (a.2.2.length = 32) := HD.out a (List.mem_of_getElem? ha)
      obtain ⟨out, HO⟩ : ∃ out, Hid (out = l.take k) := ⟨_, rfl⟩
      have hol : (out.length : Int) = (k : Int) := by rw [HO.out, List.length_take]; omega
      have HOL : Hid (out.length = k) := by show _ = _; omega
      rw [← HO.out] at ho
      obtain ⟨po, qo, rfl, hord⟩ := ho.rd
      have hqo2 : qo ≤ 2 ^ 63 - 1 := hord.2.1
      clear hc hcell hrep hord
      have hal := alloc_below wr (.cells #[.int .i64 a.1, .int .i64 a.2.1, .slice pa a.2.2.length qa] 49)
      have N := Arr.new wr [.int .i64 a.1, .int .i64 a.2.1, .slice pa a.2.2.length qa] 49
      have hinsO : Hid (∀ j, j ∈ (Value.slice po out.length qo).ownBlock.toList ++ fp → j < wr.heap.size) := fun j hj => (ho.ins j hj).2
      have KC : Hid (Calls Try.prog 62 #[.slice pa a.2.2.length qa] _ _) := l1Copy_c pa qa a.2.2 _ (ra.keep hal) (by rw [HA.out]; decide)
      go_wp2_with fail
      refine KC.out.mono ?_
      rintro e w3 ⟨u3, rfl, k3, hb3⟩
      obtain ⟨pv, qv, rfl, -⟩ := k3.rd
      have N3 := N.stay hb3
      have ho3 := (ho.stay hal).stay hb3
      have BW3 := Below.step (Below.step BW hal) hb3
      have hz3 : Hid (wr.heap.size + 1 ≤ w3.heap.size) := N3.lt
      rw [size_alloc] at k3
      have n0 := (N3.cell 0).trans (show _ = some _ from rfl)
      have n1 := (N3.cell 1).trans (show _ = some _ from rfl)
      have n2 := (N3.cell 2).trans (show _ = some _ from rfl)
      have nf := N3.frozen
      have N4 := N3.set 2 (.slice pv a.2.2.length qv)
      have k4 := k3.set (a := ⟨wr.heap.size, 2, none⟩) (by show wr.heap.size < wr.heap.size + 1; omega) (.slice pv a.2.2.length qv)
      have ho4 := ho3.fr (w' := w3.setCell ⟨wr.heap.size, 2, none⟩ (.slice pv a.2.2.length qv)) (fun j hj => heap_setCell_other _ _ j _ (by have := hinsO.out j hj; show j ≠ wr.heap.size; omega))
      have BW4 := BW3.setCell (p := ⟨wr.heap.size, 2, none⟩) BW.size (.slice pv a.2.2.length qv)
      have hz4 : Hid (wr.heap.size + 1 ≤ (w3.setCell ⟨wr.heap.size, 2, none⟩ (.slice pv a.2.2.length qv)).heap.size) := N4.lt
      have hzw : Hid (w.heap.size ≤ wr.heap.size) := BW.size
      have hal5 := alloc_below (w3.setCell ⟨wr.heap.size, 2, none⟩ (.slice pv a.2.2.length qv)) (.cells #[.int .i64 a.1, .int .i64 a.2.1, .slice pv a.2.2.length qv] 49)
      have hnew : ∀ j u, [Value.int .i64 a.1, .int .i64 a.2.1, .slice pv a.2.2.length qv][j]? = some u → ((w3.setCell ⟨wr.heap.size, 2, none⟩ (.slice pv a.2.2.length qv)).alloc (.cells #[.int .i64 a.1, .int .i64 a.2.1, .slice pv a.2.2.length qv] 49)).cell? ((⟨w3.heap.size, 0, none⟩ : Addr).add j) = some u := fun j u hj => by
        have h := (Arr.new (w3.setCell ⟨wr.heap.size, 2, none⟩ (.slice pv a.2.2.length qv)) [.int .i64 a.1, .int .i64 a.2.1, .slice pv a.2.2.length qv] 49).cells j u hj
        rw [World.size_setCell] at h
        exact h
      have ho5 := ho4.stay hal5
      have k5 := k4.stay hal5
      have BW5 := Below.step BW4 hal5
      have hrow5 : Hid (((w3.setCell ⟨wr.heap.size, 2, none⟩ (.slice pv a.2.2.length qv)).alloc (.cells #[.int .i64 a.1, .int .i64 a.2.1, .slice pv a.2.2.length qv] 49)).ownsRow w.heap.size 49 3 (.slice po out.length qo) out.length xs) := ho5.row
      obtain ⟨i0, hi, hz0, hz1, hz2⟩ := info_parts infoSign
      clear KC k3 k4 ho3 ho4 BW3 BW4 hal m0 m1 m2 ra N N3 N4 hb3 ho BW hal5
      go_wp2_with (at_builtin; refine wpList_append_lies _ rfl (.tmp 21) (.tmp 23) 41 rfl w.heap.size 49 i0 (.agg #[.int .i64 0, .int .i64 0, .slice none 0 0]) 3 40 Try.underlying41 hi hz0 hz1 hz2 rfl (by decide) (.slice po out.length qo) out.length xs rfl hrow5.out ⟨w3.heap.size, 0, none⟩ 1 1 [.int .i64 a.1, .int .i64 a.2.1, .slice pv a.2.2.length qv] rfl rfl hnew (by intro u hu; simp at hu; rcases hu with rfl | rfl | rfl <;> rfl) (by decide) (by unfold maxLen; omega) (by omega) BW5.size _ rfl ?_; intro g6 c6 w6 hown6 hgrow6 hat6 hlt6)
      have hlow : Hid (∀ j, (Value.slice pv a.2.2.length qv).ownBlock = some j → wr.heap.size + 1 ≤ j) := fun j hj => k5.ge j hj
      have ka := sign_own_mk (a := a) (k5.lower (B' := w.heap.size) (by have := hzw.out; omega))
      have OP := ho5.push ka (fun j hj hj2 => by
        have h1 := hlow.out j (mem_opt.1 hj)
        have h2 := hinsO.out j hj2
        omega) (k := out.length + 1) (v' := .slice (some ⟨g6, 0, none⟩) (out.length + 1) c6) (g := g6) hown6 (by simp) hgrow6 rfl hat6
      have BW6 := BW5.grown hgrow6 BW5.size (fun k hk => (ho5.ins k (List.mem_append_left _ (mem_opt.2 hk))).1)
      rw [HO.out, ← HTk.out] at OP
      clear ho5 k5 hown6 hgrow6 hat6 hnew hrow5 ka BW5
      go_wp2_with fail
      go_roundw
      case rel => exact ⟨k + 1, _, _, by omega, by go_num, by first | exact OP | (rw [← HO.out] at OP; exact OP), BW6⟩
      case measure => simp [intOf]; omega
    · have e : k = l.length := by omega
      subst e
      rw [List.take_length] at ho
      obtain ⟨po, qo, rfl, -⟩ := ho.rd
      go_wp2_with fail
      go_ret
      exact ⟨_, _, _, rfl, ho, BW⟩
end Go.Proofs.Ytklglpmlfboglaa

