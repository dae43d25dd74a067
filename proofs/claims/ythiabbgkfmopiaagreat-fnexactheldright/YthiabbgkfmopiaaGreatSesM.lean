/- What is held as a map from certificates to times, in the program: the map of a list (untilsOf), the list of a map (list), whether one is there (has); HoldsNow. What was there stays. -/
import Derived.Test.YthiabbgkfmopiaaGreatSortK
import Derived.Test.YthiabbgkfmopiaaGreatSesI
import Derived.Laws.AppendOwn
import Derived.Deep.AppendLies
import Derived.Maps.OwnSet
import Derived.Maps.OwnOps
namespace Go.Proofs.YthiabbgkfmopiaaGreat
open Go.ChangeShapes Go.WideShapes Go.ChangeAt Go.RowKit

def lkH (l : List HeldD) (k : Int) : Option Int := (l.find? fun h => h.1 == k).map (·.2)
theorem lkH_zero (l : List HeldD) (k : Int) : lkH (l.take 0) k = none := by simp [lkH]
theorem lkH_has {l : List HeldD} {k : Int} : (lkH l k).isSome = hasH l k := by
  unfold lkH hasH
  rw [Option.isSome_map, List.isSome_find?]
theorem lkH_take {l : List HeldD} {k : Nat} {a : HeldD} (hr : Rise l) (ha : l[k]? = some a) : lkH (l.take (k + 1)) = fun j => if j = a.1 then some a.2 else lkH (l.take k) j := by
  funext j
  unfold lkH
  rw [List.take_add_one, ha, List.find?_append]
  by_cases hj : j = a.1
  · subst hj
    have hn : (l.take k).find? (fun h => h.1 == a.1) = none := by
      rw [List.find?_eq_none]
      intro x hx
      obtain ⟨i, hi⟩ := List.mem_iff_getElem?.1 hx
      have hik : i < k := by
        have := (List.getElem?_eq_some_iff.1 hi).1
        rw [List.length_take] at this
        omega
      rw [List.getElem?_take_of_lt hik] at hi
      obtain ⟨hi1, hi2⟩ := List.getElem?_eq_some_iff.1 hi
      obtain ⟨hk1, hk2⟩ := List.getElem?_eq_some_iff.1 ha
      have := List.pairwise_iff_getElem.1 hr i k hi1 hk1 hik
      rw [hi2, hk2] at this
      have hne : ¬ x.1 = a.1 := by omega
      simpa using hne
    rw [hn]
    simp
  · have e : (a.1 == j) = false := by rw [beq_eq_false_iff_ne]; exact fun h => hj h.symm
    rw [if_neg hj]
    simp [e]
theorem lkH_at {l : List HeldD} {k : Nat} {a : HeldD} (hr : Rise l) (ha : l[k]? = some a) : lkH l a.1 = some a.2 := by
  have h1 : ∀ j, k < j → j ≤ l.length → lkH (l.take j) a.1 = some a.2 := fun j => by
    induction j with
    | zero => intro h; omega
    | succ j ih =>
      intro h1 h2
      obtain ⟨b, hb⟩ : ∃ b, l[j]? = some b := ⟨l[j], by simp⟩
      rw [lkH_take hr hb]
      by_cases hk : k = j
      · subst hk
        rw [ha] at hb
        cases hb
        simp
      · have hlt : k < j := by omega
        obtain ⟨hi1, hi2⟩ := List.getElem?_eq_some_iff.1 ha
        obtain ⟨hk1, hk2⟩ := List.getElem?_eq_some_iff.1 hb
        have := List.pairwise_iff_getElem.1 hr k j hi1 hk1 hlt
        rw [hi2, hk2] at this
        simp only
        rw [if_neg (by omega)]
        exact ih hlt (by omega)
  have := h1 l.length (List.getElem?_eq_some_iff.1 ha).1 (Nat.le_refl _)
  rwa [List.take_length] at this
theorem lkH_hn {l : List HeldD} {k now : Int} (hr : Rise l) : hnB l k now = match lkH l k with | some u => decide (now ≤ u) | none => false := by
  cases h : lkH l k with
  | none =>
    have h2 : hasH l k = false := by rw [← lkH_has, h]; rfl
    simp only
    unfold hnB
    rw [List.any_eq_false]
    intro x hx
    have := h2
    simp only [hasH, List.any_eq_false] at this
    have := this x hx
    simp at this
    simp [this]
  | some u =>
    have h2 : hasH l k = true := by rw [← lkH_has, h]; rfl
    obtain ⟨a, ha, rfl⟩ := hasH_iff.1 h2
    obtain ⟨i, hi⟩ := List.mem_iff_getElem?.1 ha
    have h3 := lkH_at hr hi
    rw [h] at h3
    cases h3
    simp only
    unfold hnB
    cases hd : decide (now ≤ a.2)
    · rw [List.any_eq_false]
      intro x hx
      by_cases he : x.1 = a.1
      · obtain ⟨j, hj⟩ := List.mem_iff_getElem?.1 hx
        have h4 := lkH_at hr hj
        rw [he, h] at h4
        have h5 : x.2 = a.2 := (Option.some.inj h4).symm
        rw [h5]
        simpa [he] using hd
      · simp [he]
    · rw [List.any_eq_true]
      exact ⟨a, ha, by simpa using hd⟩
def cellsH (l : List HeldD) : List Value := l.flatMap fun a => [.int .i64 a.1, .int .i64 a.2]
theorem cellsH_snoc (l : List HeldD) (a : HeldD) : cellsH (l ++ [a]) = cellsH l ++ [.int .i64 a.1, .int .i64 a.2] := by simp [cellsH]
theorem cellsH_all {w : World} {B : Nat} : ∀ (l : List HeldD), OwnAll holdC w B l (cellsH l) []
  | [] => ⟨rfl, rfl⟩
  | _ :: l => ⟨_, _, [], [], rfl, rfl, hold_own, cellsH_all l⟩
open Go.Maps in
/-- What a map holds, as a function. -/
def MapIs (D : DataW Unit) (f : Int → Option Int) : Prop := ∀ k : Int, Maps.has D (.int .i64 k) = (f k).isSome ∧ D.atKey (.int .i64 k) (.lit (.int .i64 0)) = .lit (.int .i64 ((f k).getD 0))
theorem MapIs.nil : MapIs (.map []) (fun _ => none) := fun _ => ⟨rfl, rfl⟩
theorem litNe {a b : Int} (h : a ≠ b) : (Lit.int .i64 a) ≠ (Lit.int .i64 b) := fun e => h (by injection e)
theorem MapIs.put {D : DataW Unit} {f : Int → Option Int} (h : MapIs D f) (hm : Go.Maps.IsMap D) (k u : Int) (hk : WideAt.IsKeyLit (.int .i64 k)) : MapIs (D.put (.int .i64 k) (.lit (.int .i64 u))) (fun j => if j = k then some u else f j) := fun j => by
  by_cases hj : j = k
  · subst hj
    simp only [if_true]
    exact ⟨Go.Maps.has_put_same hm hk _, Go.Maps.atKey_put_same hm hk _ _⟩
  · simp only [if_neg hj]
    rw [Go.Maps.has_put_other (litNe hj), Go.Maps.atKey_put_other (litNe hj)]
    exact h j
theorem MapIs.del {D : DataW Unit} {f : Int → Option Int} (h : MapIs D f) (k : Int) : MapIs (D.del (.int .i64 k)) (fun j => if j = k then none else f j) := fun j => by
  by_cases hj : j = k
  · subst hj
    simp only [if_true]
    exact ⟨Go.Maps.has_del_same, Go.Maps.atKey_del_same _⟩
  · simp only [if_neg hj]
    rw [Go.Maps.has_del_other (litNe hj), Go.Maps.atKey_del_other (litNe hj)]
    exact h j
theorem wf64 {x : Int} (h1 : -9223372036854775808 ≤ x) (h2 : x ≤ 9223372036854775807) : (Lit.int .i64 x).wf = true := by
  have e1 : IntKind.i64.min = -9223372036854775808 := by kernel_rfl
  have e2 : IntKind.i64.max = 9223372036854775807 := by kernel_rfl
  simp only [Lit.wf, e1, e2, Bool.and_eq_true, decide_eq_true_eq]
  omega
theorem keyH (x : Int) (h : (Lit.int .i64 x).wf = true) : keyOf Tryz.prog 2 (.int .i64 x) = some (.int .i64 x) := Go.Maps.keyOf_int_mk Tryz.underlying2 h
theorem lawH : Go.Maps.Keyed Tryz.prog 2 := Go.Maps.int_keyed Tryz.underlying2
theorem zeroH (w : World) : (zeroValue 2).run Tryz.prog w = .ok (.int .i64 0) w := by kernel_rfl
abbrev MapH (w : World) (b n : Nat) (D : DataW Unit) : Prop := w.ownsMap Tryz.prog 2 (plainElem Tryz.prog 2) b n D
theorem MapH.keep {w w' : World} {b n : Nat} {D : DataW Unit} (h : MapH w b n D) (hb : Below w.heap.size w w') : MapH w' b n D := by
  obtain ⟨es, c, h1, h2⟩ := h
  exact ⟨es, c, (hb.block b (Array.getElem?_eq_some_iff.1 h1).1).trans h1, h2⟩
theorem keys_perm {w : World} {b n : Nat} {D : DataW Unit} {l : List HeldD} (h : MapH w b n D) (hm : MapIs D (lkH l)) (hr : Rise l) : (l.map (·.1)).Perm (Go.intKeys D) := by
  obtain ⟨es, hD, hpw, -⟩ := h.entries lawH
  obtain ⟨es', hD', hko⟩ := h.keysOf
  obtain rfl : es = es' := by rw [hD] at hD'; simpa using hD'
  subst hD
  refine Go.perm_intKeys hpw (fun p hp => by obtain ⟨v, hv⟩ := hko p hp; obtain ⟨x, _, hx, _⟩ := Go.Maps.keyOf_i64 Tryz.underlying2 hv; exact ⟨x, hx⟩) ?_ (fun x => ?_)
  · exact (List.pairwise_map.2 (hr.imp fun h e => by omega))
  · rw [(hm x).1, lkH_has, hasH_iff, List.mem_map]
theorem keys_sorted {l : List HeldD} (hr : Rise l) : (l.map (·.1)).mergeSort (fun x y => decide (x ≤ y)) = l.map (·.1) :=
  List.mergeSort_of_pairwise (List.pairwise_map.2 (hr.imp fun h => by simp; omega))
theorem infoHeldT : (Tryz.prog.info? 59).map (fun i => (i.zero, i.size, i.bytes)) = some (some (.agg #[.int .i64 0, .int .i64 0]), 2, 16) := by kernel_rfl
set_option maxRecDepth 4000 in
set_option maxHeartbeats 2000000 in
theorem untilsList_c (b n : Nat) (D : DataW Unit) (l : List HeldD) (w : World) (ho : MapH w b n D) (hm : MapIs D (lkH l)) (hr : Rise l) (hk : ∀ h ∈ l, okH h = true) (hl : l.length ≤ 1000) (hn : n ≤ 1000) :
    Calls Tryz.prog 28 #[.map (some b)] w fun e w' => ∃ v, e = .returned v ∧ w'.ownsRow w.heap.size 59 2 v l.length (cellsH l) ∧ Below w.heap.size w w' := by
  obtain ⟨i0, hi, hz0, hz1, hz2⟩ := info_parts infoHeldT
  have HO : Hid (MapH w b n D) := ho
  have HMI : Hid (MapIs D (lkH l)) := hm
  have HR : Hid (Rise l ∧ (∀ h ∈ l, okH h = true) ∧ l.length ≤ 1000) := ⟨hr, hk, hl⟩
  have hal := alloc_below w (.cells #[.map (some b)] 71)
  have K1 := keysOf_c (some b) w
  have hsz : Maps.size D ≤ 1000 := Nat.le_trans ho.size_le hn
  have K2 := sortedKeys_c b n w.heap.size D (plainElem Tryz.prog 2) (w.alloc (.cells #[.map (some b)] 71)) (by rw [size_alloc]; omega) ((Arr.new w [.map (some b)] 71).cell 0) (ho.keep hal) (by unfold maxLen; omega) (by omega)
  have HP : Hid (∀ ss : List Int, ss.Perm (Go.intKeys D) → ss.mergeSort (fun x y => decide (x ≤ y)) = l.map (·.1) ∧ ss.length = l.length) := fun ss hs => by
    have h1 : ss.Perm (l.map (·.1)) := hs.trans (keys_perm ho hm hr).symm
    exact ⟨(Go.mergeSort_of_perm_i h1).trans (keys_sorted hr), by rw [h1.length_eq, List.length_map]⟩
  clear ho hm hr hk hl hn hsz
  go_enter Tryz.func28, Tryz.ntmps28
  go_wp2_with fail
  refine K1.mono ?_
  rintro e w1 ⟨rfl, hw⟩
  rw [hw]
  clear hw w1 K1
  go_wp2_with fail
  refine K2.mono ?_
  rintro e w2 ⟨v2, ss, rfl, hp, hrow, -, hb2⟩
  obtain ⟨hp1, hp2⟩ := HP.out ss hp
  rw [hp1, hp2] at hrow
  have BW := Below.step hal hb2
  obtain ⟨p2, q2, rfl, r2⟩ := ownsRow_raw hrow
  have HR2 : Hid (Raw w2 p2 q2 l.length 1 ((l.map (·.1)).map encZ)) := r2
  have hq1 : l.length ≤ q2 := r2.2.1
  have hq2 : q2 ≤ 2 ^ 63 - 1 := r2.2.2.1
  have HB2 : Hid (w.heap.size ≤ w2.heap.size) := BW.size
  clear K2 hp hp1 hp2 hrow hb2 hal r2 HP
  go_wp2_with fail
  go_loopw [3, 10] (fun v i wr => ∃ k : Nat, k ≤ l.length ∧ i = .int .i64 k ∧ wr.ownsRow w2.heap.size 59 2 v k (cellsH (l.take k)) ∧ Below w2.heap.size w2 wr)
    (fun _ i _ => l.length - (intOf i).toNat)
  case atStart => exact ⟨0, Nat.zero_le _, rfl, ⟨rfl, .inl ⟨rfl, rfl⟩⟩, Below.refl _ _⟩
  case round =>
    obtain ⟨k, hk, rfl, hrow, BX⟩ := hrel
    have BWx := Below.step BW BX
    by_cases hlt : k < l.length
    · have hI : (k : Int) < (l.length : Int) := by omega
      obtain ⟨b5, o5, e1, hcc⟩ := (HR2.out.keep BX).2.2.2.2 (by omega)
      subst e1
      obtain ⟨a, ha⟩ : ∃ a, l[k]? = some a := ⟨l[k], by simp [hlt]⟩
      have c0 := hcc k (.int .i64 a.1) (by rw [List.getElem?_map, List.getElem?_map, ha]; rfl)
      have hpa := okH_parts (HR.out.2.1 a (List.mem_of_getElem? ha))
      have HW1 : Hid ((Lit.int .i64 a.1).wf = true) := wf64 (by omega) (by omega)
      have hoD := HO.out.keep BWx
      have HA : Hid (D.atKey (.int .i64 a.1) (.lit (.int .i64 0)) = .lit (.int .i64 a.2)) := by show _ = _; rw [(HMI.out a.1).2, lkH_at HR.out.1 ha]; rfl
      have HCT : Hid (cellsH (l.take (k + 1)) = cellsH (l.take k) ++ [.int .i64 a.1, .int .i64 a.2]) := by show _ = _; rw [List.take_add_one, ha]; exact cellsH_snoc _ _
      have HL : Hid (k ≤ 1000) := by show _ ≤ _; have := HR.out.2.2; omega
      obtain ⟨pv, qv, rfl, rv⟩ := ownsRow_raw hrow
      have HBX : Hid (w2.heap.size ≤ wr.heap.size) := BX.size
      have HLT : Hid (∀ j, (Value.slice pv k qv).ownBlock = some j → w2.heap.size ≤ j) := fun j hj => (World.ownsRow.lt hrow j hj).1
      have hrow2 := ownsRow_fr (w' := wr.alloc (.cells #[.int .i64 a.1, .int .i64 a.2] 59)) hrow (fun j hj => Below.heap_alloc _ _ j (World.ownsRow.lt hrow j hj).2)
      have hal := alloc_below wr (.cells #[.int .i64 a.1, .int .i64 a.2] 59)
      have hnew : ∀ j u, ([.int .i64 a.1, .int .i64 a.2] : List Value)[j]? = some u → (wr.alloc (.cells #[.int .i64 a.1, .int .i64 a.2] 59)).cell? ((⟨wr.heap.size, 0, none⟩ : Addr).add j) = some u := fun j u hj => (Arr.new wr [.int .i64 a.1, .int .i64 a.2] 59).cells j u hj
      have BX2 := Below.step BX hal
      clear hcc hpa rv hrow BWx hal BX
      go_wp2_with (first
        | (at_lookup; refine wpList_lookup_own_int _ rfl _ _ 71 rfl 2 2 .i64 lawH Tryz.underlying71 Tryz.underlying2 (zeroH _) b n D rfl hoD (.int .i64 a.1) _ rfl (keyH _ HW1.out) ?_; intro c hat hwc; obtain rfl : c = a.2 := by { rw [HA.out] at hat; injection hat with h1; injection h1 with _ h2; exact h2.symm })
        | (at_builtin; refine wpList_append_lies _ rfl (.tmp 14) (.tmp 20) 49 rfl w2.heap.size 59 i0 (.agg #[.int .i64 0, .int .i64 0]) 2 16 Tryz.underlying49 hi hz0 hz1 hz2 rfl (by decide) (.slice pv k qv) k (cellsH (l.take k)) rfl hrow2 ⟨wr.heap.size, 0, none⟩ 1 1 [.int .i64 a.1, .int .i64 a.2] rfl rfl hnew (by intro u hu; simp at hu; rcases hu with rfl | rfl <;> rfl) (by decide) (by have := HL.out; unfold maxLen; omega) (by have := HL.out; omega) BX2.size _ rfl ?_; intro g6 c6 w6 hown6 hgrow6 hat6 hlt6))
      have BX6 := BX2.grown hgrow6 BX2.size (fun j hj => HLT.out j hj)
      rw [← HCT.out] at hown6
      clear hrow2 hoD hnew hgrow6 hat6 hlt6 BX2 HLT HCT c0
      go_roundw
      case rel => exact ⟨k + 1, by omega, by go_num, hown6, BX6⟩
      case measure => simp [intOf]; omega
    · have e : k = l.length := by omega
      subst e
      rw [List.take_length] at hrow
      have hrow2 := ownsRow_low hrow HB2.out
      obtain ⟨pv, qv, rfl, -⟩ := ownsRow_raw hrow
      clear hrow BX
      go_wp2_with fail
      go_ret
      exact ⟨_, rfl, hrow2, BWx⟩
end Go.Proofs.YthiabbgkfmopiaaGreat

