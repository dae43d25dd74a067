/- The contracts of StreamXor and QuarterRound in the specification, at every argument: code and bytes or list. -/
import Derived.Test.YtbgdhjeccdooiaaXorM
import Derived.Test.YtbgdhjeccdooiaaStrX
import Derived.Test.YtbgdhjeccdooiaaMixR
namespace Go.Proofs.Ytbgdhjeccdooiaa
open Go.ChangeShapes Go.WideShapes Go.ChangeAt Go.RowKit

def sxC (key nonce data : List UInt8) : Int := if strC key nonce 0 = 0 then (if data.length ≤ 220 then 0 else 2) else 1
def sxL (key nonce data : List UInt8) : List UInt8 := if sxC key nonce data = 0 then hideN key nonce data else []
theorem strC_one {key nonce : List UInt8} (h : ¬ strC key nonce 0 = 0) : strC key nonce 0 = 1 := by
  have hi : inB 0 0 4294967295 = true := by decide
  unfold strC at *
  rw [hi] at *
  split
  · rename_i h1
    rw [if_pos h1] at h
    split
    · rename_i h2
      rw [if_pos h2] at h
      exact absurd rfl h
    · rfl
  · rfl
theorem sxC_zero {key nonce data : List UInt8} (h : sxC key nonce data = 0) : strC key nonce 0 = 0 ∧ data.length ≤ 220 := by
  unfold sxC at h
  split at h
  · rename_i h1
    split at h
    · rename_i h2
      exact ⟨h1, h2⟩
    · cases h
  · cases h
theorem sxL_len (key nonce data : List UInt8) : (sxL key nonce data).length ≤ 1048576 := by
  unfold sxL; split
  · rename_i h
    rw [hideN_len]
    have := (sxC_zero h).2
    omega
  · simp


def in16 (a : Int) : Bool := inB a 0 15
def qrOk (l : List Int) (a b c d : Int) : Bool := l.all isW && (in16 a && (in16 b && (in16 c && in16 d)))
def qrSame (a b c d : Int) : Bool := (a == b) || ((a == c) || ((a == d) || ((b == c) || ((b == d) || (c == d)))))
def qrC (l : List Int) (a b c d : Int) : Int := if l.length = 16 then (if qrOk l a b c d then (if qrSame a b c d then 1 else 0) else 3) else 1
def qrL (l : List Int) (a b c d : Int) : List Int := if qrC l a b c d = 0 then (quarterN (l.map Int.toNat) a.toNat b.toNat c.toNat d.toNat).map Int.ofNat else []
theorem qrC_zero {l : List Int} {a b c d : Int} (h : qrC l a b c d = 0) : l.length = 16 ∧ qrOk l a b c d = true ∧ qrSame a b c d = false := by
  unfold qrC at h
  split at h
  · rename_i h1
    split at h
    · rename_i h2
      split at h
      · cases h
      · rename_i h3
        exact ⟨h1, h2, by simpa using h3⟩
    · cases h
  · cases h
theorem qrL_len (l : List Int) (a b c d : Int) : (qrL l a b c d).length ≤ 1048576 := by
  unfold qrL; split
  · rename_i h
    rw [List.length_map, quarterN_len, List.length_map, (qrC_zero h).1]; decide
  · simp

theorem nat16 {a : Int} (h : in16 a = true) : ∃ n : Nat, a = n ∧ n < 16 := by
  simp [in16, inB] at h
  exact ⟨a.toNat, by omega, by omega⟩
theorem nat_words {l : List Int} (h : l.all isW = true) : (l.map Int.toNat).map Int.ofNat = l ∧ Words (l.map Int.toNat) := by
  constructor
  · rw [List.map_map]
    conv => rhs; rw [← List.map_id l]
    apply List.map_congr_left
    intro x hx
    have h2 := (List.all_eq_true.1 h) x hx
    simp [isW, inB] at h2
    simp
    omega
  · intro y hy
    obtain ⟨x, hx, rfl⟩ := List.mem_map.1 hy
    have h2 := (List.all_eq_true.1 h) x hx
    simp [isW, inB] at h2
    omega

set_option maxRecDepth 4000 in
set_option maxHeartbeats 4000000 in
theorem specQR_x (p : Option Addr) (q : Nat) (l : List Int) (a b c d : Int) (w : World) (hr : RdI w p q l) (h16 : l.length = 16) :
    Calls Try.prog 5 #[.slice p l.length q, .int .i64 a, .int .i64 b, .int .i64 c, .int .i64 d] w fun e w' => ∃ u, e = .returned (.agg #[.int .i64 (qrC l a b c d), u]) ∧ OwnI w' w.heap.size u (qrL l a b c d) ∧ Below w.heap.size w w' ∧ (qrC l a b c d ≠ 0 → u = .slice none 0 0) := by
  have d1 : ((l.length : Int) != 16) = false := by rw [bne_eq_false_iff_eq]; omega
  have HC3 : Hid (qrOk l a b c d = false → qrC l a b c d = 3) := fun h => by simp [qrC, h16, h]
  have HL3 : Hid (qrOk l a b c d = false → qrL l a b c d = []) := fun h => by simp [qrL, qrC, h16, h]
  have HC1 : Hid (qrOk l a b c d = true → qrSame a b c d = true → qrC l a b c d = 1) := fun h h' => by simp [qrC, h16, h, h']
  have HL1 : Hid (qrOk l a b c d = true → qrSame a b c d = true → qrL l a b c d = []) := fun h h' => by simp [qrL, qrC, h16, h, h']
  have HC0 : Hid (qrOk l a b c d = true → qrSame a b c d = false → qrC l a b c d = 0) := fun h h' => by simp [qrC, h16, h, h']
  have HL0 : Hid (qrOk l a b c d = true → qrSame a b c d = false → qrL l a b c d = (quarterN (l.map Int.toNat) a.toNat b.toNat c.toNat d.toNat).map Int.ofNat) := fun h h' => by simp [qrL, qrC, h16, h, h']
  have HL : Hid (l.length = 16) := h16
  obtain ⟨b1, o1, rfl, hc1⟩ := hr.2.2.2 (by omega)
  have HR : Hid (RdI w (some ⟨b1, o1, none⟩) q l) := hr
  have hc2 : ∀ i, i < l.length → (w.alloc (.cells #[.int .i64 0, .slice none 0 0] 24)).cell? ⟨b1, o1 + i, none⟩ = some (.int .i64 (atI l i)) := fun i hi => cell_keep (hc1 i hi) (alloc_below _ _)
  have BWA : Below w.heap.size w (w.alloc (.cells #[.int .i64 0, .slice none 0 0] 24)) := alloc_below _ _
  clear h16 hr hc1
  go_enter Try.func5, Try.ntmps5
  go_wp2
  go_loop [11] (fun i => ∃ j : Nat, j ≤ 16 ∧ i = .int .i64 j ∧ ∀ k, k < j → isW (atI l k) = true)
    (fun i => 16 - (intOf i).toNat)
  case atStart => exact ⟨0, Nat.zero_le _, rfl, fun k hk => by omega⟩
  case round =>
    obtain ⟨j, hj, rfl, hw⟩ := hrel
    by_cases hjl : j < 16
    · have hjk : j < l.length := by rw [HL.out]; exact hjl
      have hcx := hc2 j hjk
      clear hc2
      have hix : (j : Int) < (l.length : Int) := by omega
      have HW2 : Hid (∀ k, k < j → isW (atI l k) = true) := hw
      cases hx : isW (atI l j)
      · have hno : qrOk l a b c d = false := by simp only [qrOk, not_all_at hjk hx, Bool.false_and]
        have hqc : Hid (qrC l a b c d = 3) := HC3.out hno
        have hql : Hid (qrL l a b c d = []) := HL3.out hno
        have hx' : Hid (inB (atI l j) 0 4294967295 = false) := hx
        clear hno hx hw
        generalize atI l j = x at *
        go_wp2_with fail
        refine (l1Word_c _ _).mono ?_
        rintro e wX ⟨rfl, hwX⟩
        subst hwX
        rw [hx'.out]
        go_wp2
        exact bodyPost_ret (v := .agg #[.int .i64 3, .slice none 0 0]) (by simp [results, Try.results5, go_sem]) rfl ⟨_, by rw [hqc.out], by rw [hql.out]; exact OwnI_nil _ _, alloc_below _ _, fun _ => rfl⟩
      · have HX : Hid (isW (atI l j) = true) := hx
        have hx' : Hid (inB (atI l j) 0 4294967295 = true) := hx
        clear hx hw
        obtain ⟨x, hxe⟩ : ∃ x, Hid (x = atI l j) := ⟨_, rfl⟩
        rw [← hxe.out] at hx' hcx
        go_wp2_with fail
        refine (l1Word_c _ _).mono ?_
        rintro e wX ⟨rfl, hwX⟩
        subst hwX
        rw [hx'.out]
        go_wp2
        go_round
        case rel => exact ⟨j + 1, by omega, by go_num, fun k hk => by by_cases h : k < j; exact HW2.out k h; rw [show k = j by omega]; exact HX.out⟩
        case measure => simp [intOf]; omega
    · have e : j = 16 := by omega
      subst e
      have hall : l.all isW = true := all_of_at (fun k hk => hw k (by rw [HL.out] at hk; exact hk))
      clear hw hj hjl
      have HALL : Hid (l.all isW = true) := hall
      cases ha : in16 a
      · have hqc : Hid (qrC l a b c d = 3) := HC3.out (by simp [qrOk, ha])
        have hql : Hid (qrL l a b c d = []) := HL3.out (by simp [qrOk, ha])
        go_wp2_with fail
        refine (l1In_c _ _ _ _).mono ?_
        rintro e wX ⟨rfl, hwX⟩
        subst hwX
        rw [show inB a 0 15 = false from ha]
        go_wp2
        exact bodyPost_ret (v := .agg #[.int .i64 3, .slice none 0 0]) (by simp [results, Try.results5, go_sem]) rfl ⟨_, by rw [hqc.out], by rw [hql.out]; exact OwnI_nil _ _, alloc_below _ _, fun _ => rfl⟩
      · skip
        cases hb : in16 b
        · have hqc : Hid (qrC l a b c d = 3) := HC3.out (by simp [qrOk, ha, hb])
          have hql : Hid (qrL l a b c d = []) := HL3.out (by simp [qrOk, ha, hb])
          go_wp2_with fail
          refine (l1In_c _ _ _ _).mono ?_
          rintro e wX ⟨rfl, hwX⟩
          subst hwX
          rw [show inB a 0 15 = true from ha]
          go_wp2_with fail
          refine (l1In_c _ _ _ _).mono ?_
          rintro e wX ⟨rfl, hwX⟩
          subst hwX
          rw [show inB b 0 15 = false from hb]
          go_wp2
          exact bodyPost_ret (v := .agg #[.int .i64 3, .slice none 0 0]) (by simp [results, Try.results5, go_sem]) rfl ⟨_, by rw [hqc.out], by rw [hql.out]; exact OwnI_nil _ _, alloc_below _ _, fun _ => rfl⟩
        · skip
          cases hc : in16 c
          · have hqc : Hid (qrC l a b c d = 3) := HC3.out (by simp [qrOk, ha, hb, hc])
            have hql : Hid (qrL l a b c d = []) := HL3.out (by simp [qrOk, ha, hb, hc])
            go_wp2_with fail
            refine (l1In_c _ _ _ _).mono ?_
            rintro e wX ⟨rfl, hwX⟩
            subst hwX
            rw [show inB a 0 15 = true from ha]
            go_wp2_with fail
            refine (l1In_c _ _ _ _).mono ?_
            rintro e wX ⟨rfl, hwX⟩
            subst hwX
            rw [show inB b 0 15 = true from hb]
            go_wp2_with fail
            refine (l1In_c _ _ _ _).mono ?_
            rintro e wX ⟨rfl, hwX⟩
            subst hwX
            rw [show inB c 0 15 = false from hc]
            go_wp2
            exact bodyPost_ret (v := .agg #[.int .i64 3, .slice none 0 0]) (by simp [results, Try.results5, go_sem]) rfl ⟨_, by rw [hqc.out], by rw [hql.out]; exact OwnI_nil _ _, alloc_below _ _, fun _ => rfl⟩
          · skip
            cases hd : in16 d
            · have hqc : Hid (qrC l a b c d = 3) := HC3.out (by simp [qrOk, ha, hb, hc, hd])
              have hql : Hid (qrL l a b c d = []) := HL3.out (by simp [qrOk, ha, hb, hc, hd])
              go_wp2_with fail
              refine (l1In_c _ _ _ _).mono ?_
              rintro e wX ⟨rfl, hwX⟩
              subst hwX
              rw [show inB a 0 15 = true from ha]
              go_wp2_with fail
              refine (l1In_c _ _ _ _).mono ?_
              rintro e wX ⟨rfl, hwX⟩
              subst hwX
              rw [show inB b 0 15 = true from hb]
              go_wp2_with fail
              refine (l1In_c _ _ _ _).mono ?_
              rintro e wX ⟨rfl, hwX⟩
              subst hwX
              rw [show inB c 0 15 = true from hc]
              go_wp2_with fail
              refine (l1In_c _ _ _ _).mono ?_
              rintro e wX ⟨rfl, hwX⟩
              subst hwX
              rw [show inB d 0 15 = false from hd]
              go_wp2
              exact bodyPost_ret (v := .agg #[.int .i64 3, .slice none 0 0]) (by simp [results, Try.results5, go_sem]) rfl ⟨_, by rw [hqc.out], by rw [hql.out]; exact OwnI_nil _ _, alloc_below _ _, fun _ => rfl⟩
            · skip
              have hok : qrOk l a b c d = true := by simp [qrOk, hall, ha, hb, hc, hd]
              by_cases eab : (a == b) = true
              · have hqc : Hid (qrC l a b c d = 1) := HC1.out hok (by simp only [qrSame, eab]; rfl)
                have hql : Hid (qrL l a b c d = []) := HL1.out hok (by simp only [qrSame, eab]; rfl)
                go_wp2_with fail
                refine (l1In_c _ _ _ _).mono ?_
                rintro e wX ⟨rfl, hwX⟩
                subst hwX
                rw [show inB a 0 15 = true from ha]
                go_wp2_with fail
                refine (l1In_c _ _ _ _).mono ?_
                rintro e wX ⟨rfl, hwX⟩
                subst hwX
                rw [show inB b 0 15 = true from hb]
                go_wp2_with fail
                refine (l1In_c _ _ _ _).mono ?_
                rintro e wX ⟨rfl, hwX⟩
                subst hwX
                rw [show inB c 0 15 = true from hc]
                go_wp2_with fail
                refine (l1In_c _ _ _ _).mono ?_
                rintro e wX ⟨rfl, hwX⟩
                subst hwX
                rw [show inB d 0 15 = true from hd]
                go_wp2
                exact bodyPost_ret (v := .agg #[.int .i64 1, .slice none 0 0]) (by simp [results, Try.results5, go_sem]) rfl ⟨_, by rw [hqc.out], by rw [hql.out]; exact OwnI_nil _ _, alloc_below _ _, fun _ => rfl⟩
              rw [Bool.not_eq_true] at eab
              by_cases eac : (a == c) = true
              · have hqc : Hid (qrC l a b c d = 1) := HC1.out hok (by simp only [qrSame, eab, eac]; rfl)
                have hql : Hid (qrL l a b c d = []) := HL1.out hok (by simp only [qrSame, eab, eac]; rfl)
                go_wp2_with fail
                refine (l1In_c _ _ _ _).mono ?_
                rintro e wX ⟨rfl, hwX⟩
                subst hwX
                rw [show inB a 0 15 = true from ha]
                go_wp2_with fail
                refine (l1In_c _ _ _ _).mono ?_
                rintro e wX ⟨rfl, hwX⟩
                subst hwX
                rw [show inB b 0 15 = true from hb]
                go_wp2_with fail
                refine (l1In_c _ _ _ _).mono ?_
                rintro e wX ⟨rfl, hwX⟩
                subst hwX
                rw [show inB c 0 15 = true from hc]
                go_wp2_with fail
                refine (l1In_c _ _ _ _).mono ?_
                rintro e wX ⟨rfl, hwX⟩
                subst hwX
                rw [show inB d 0 15 = true from hd]
                go_wp2
                exact bodyPost_ret (v := .agg #[.int .i64 1, .slice none 0 0]) (by simp [results, Try.results5, go_sem]) rfl ⟨_, by rw [hqc.out], by rw [hql.out]; exact OwnI_nil _ _, alloc_below _ _, fun _ => rfl⟩
              rw [Bool.not_eq_true] at eac
              by_cases ead : (a == d) = true
              · have hqc : Hid (qrC l a b c d = 1) := HC1.out hok (by simp only [qrSame, eab, eac, ead]; rfl)
                have hql : Hid (qrL l a b c d = []) := HL1.out hok (by simp only [qrSame, eab, eac, ead]; rfl)
                go_wp2_with fail
                refine (l1In_c _ _ _ _).mono ?_
                rintro e wX ⟨rfl, hwX⟩
                subst hwX
                rw [show inB a 0 15 = true from ha]
                go_wp2_with fail
                refine (l1In_c _ _ _ _).mono ?_
                rintro e wX ⟨rfl, hwX⟩
                subst hwX
                rw [show inB b 0 15 = true from hb]
                go_wp2_with fail
                refine (l1In_c _ _ _ _).mono ?_
                rintro e wX ⟨rfl, hwX⟩
                subst hwX
                rw [show inB c 0 15 = true from hc]
                go_wp2_with fail
                refine (l1In_c _ _ _ _).mono ?_
                rintro e wX ⟨rfl, hwX⟩
                subst hwX
                rw [show inB d 0 15 = true from hd]
                go_wp2
                exact bodyPost_ret (v := .agg #[.int .i64 1, .slice none 0 0]) (by simp [results, Try.results5, go_sem]) rfl ⟨_, by rw [hqc.out], by rw [hql.out]; exact OwnI_nil _ _, alloc_below _ _, fun _ => rfl⟩
              rw [Bool.not_eq_true] at ead
              by_cases ebc : (b == c) = true
              · have hqc : Hid (qrC l a b c d = 1) := HC1.out hok (by simp only [qrSame, eab, eac, ead, ebc]; rfl)
                have hql : Hid (qrL l a b c d = []) := HL1.out hok (by simp only [qrSame, eab, eac, ead, ebc]; rfl)
                go_wp2_with fail
                refine (l1In_c _ _ _ _).mono ?_
                rintro e wX ⟨rfl, hwX⟩
                subst hwX
                rw [show inB a 0 15 = true from ha]
                go_wp2_with fail
                refine (l1In_c _ _ _ _).mono ?_
                rintro e wX ⟨rfl, hwX⟩
                subst hwX
                rw [show inB b 0 15 = true from hb]
                go_wp2_with fail
                refine (l1In_c _ _ _ _).mono ?_
                rintro e wX ⟨rfl, hwX⟩
                subst hwX
                rw [show inB c 0 15 = true from hc]
                go_wp2_with fail
                refine (l1In_c _ _ _ _).mono ?_
                rintro e wX ⟨rfl, hwX⟩
                subst hwX
                rw [show inB d 0 15 = true from hd]
                go_wp2
                exact bodyPost_ret (v := .agg #[.int .i64 1, .slice none 0 0]) (by simp [results, Try.results5, go_sem]) rfl ⟨_, by rw [hqc.out], by rw [hql.out]; exact OwnI_nil _ _, alloc_below _ _, fun _ => rfl⟩
              rw [Bool.not_eq_true] at ebc
              by_cases ebd : (b == d) = true
              · have hqc : Hid (qrC l a b c d = 1) := HC1.out hok (by simp only [qrSame, eab, eac, ead, ebc, ebd]; rfl)
                have hql : Hid (qrL l a b c d = []) := HL1.out hok (by simp only [qrSame, eab, eac, ead, ebc, ebd]; rfl)
                go_wp2_with fail
                refine (l1In_c _ _ _ _).mono ?_
                rintro e wX ⟨rfl, hwX⟩
                subst hwX
                rw [show inB a 0 15 = true from ha]
                go_wp2_with fail
                refine (l1In_c _ _ _ _).mono ?_
                rintro e wX ⟨rfl, hwX⟩
                subst hwX
                rw [show inB b 0 15 = true from hb]
                go_wp2_with fail
                refine (l1In_c _ _ _ _).mono ?_
                rintro e wX ⟨rfl, hwX⟩
                subst hwX
                rw [show inB c 0 15 = true from hc]
                go_wp2_with fail
                refine (l1In_c _ _ _ _).mono ?_
                rintro e wX ⟨rfl, hwX⟩
                subst hwX
                rw [show inB d 0 15 = true from hd]
                go_wp2
                exact bodyPost_ret (v := .agg #[.int .i64 1, .slice none 0 0]) (by simp [results, Try.results5, go_sem]) rfl ⟨_, by rw [hqc.out], by rw [hql.out]; exact OwnI_nil _ _, alloc_below _ _, fun _ => rfl⟩
              rw [Bool.not_eq_true] at ebd
              by_cases ecd : (c == d) = true
              · have hqc : Hid (qrC l a b c d = 1) := HC1.out hok (by simp only [qrSame, eab, eac, ead, ebc, ebd, ecd]; rfl)
                have hql : Hid (qrL l a b c d = []) := HL1.out hok (by simp only [qrSame, eab, eac, ead, ebc, ebd, ecd]; rfl)
                go_wp2_with fail
                refine (l1In_c _ _ _ _).mono ?_
                rintro e wX ⟨rfl, hwX⟩
                subst hwX
                rw [show inB a 0 15 = true from ha]
                go_wp2_with fail
                refine (l1In_c _ _ _ _).mono ?_
                rintro e wX ⟨rfl, hwX⟩
                subst hwX
                rw [show inB b 0 15 = true from hb]
                go_wp2_with fail
                refine (l1In_c _ _ _ _).mono ?_
                rintro e wX ⟨rfl, hwX⟩
                subst hwX
                rw [show inB c 0 15 = true from hc]
                go_wp2_with fail
                refine (l1In_c _ _ _ _).mono ?_
                rintro e wX ⟨rfl, hwX⟩
                subst hwX
                rw [show inB d 0 15 = true from hd]
                go_wp2
                exact bodyPost_ret (v := .agg #[.int .i64 1, .slice none 0 0]) (by simp [results, Try.results5, go_sem]) rfl ⟨_, by rw [hqc.out], by rw [hql.out]; exact OwnI_nil _ _, alloc_below _ _, fun _ => rfl⟩
              rw [Bool.not_eq_true] at ecd
              have hsm : qrSame a b c d = false := by simp only [qrSame, eab, eac, ead, ebc, ebd, ecd]; rfl
              have hqc : Hid (qrC l a b c d = 0) := HC0.out hok hsm
              have hql : Hid (qrL l a b c d = (quarterN (l.map Int.toNat) a.toNat b.toNat c.toNat d.toNat).map Int.ofNat) := HL0.out hok hsm
              obtain ⟨na, rfl, ba⟩ := nat16 ha
              obtain ⟨nb, rfl, bb⟩ := nat16 hb
              obtain ⟨nc, rfl, bc⟩ := nat16 hc
              obtain ⟨nd, rfl, bd⟩ := nat16 hd
              go_wp2_with fail
              refine (l1In_c _ _ _ _).mono ?_
              rintro e wX ⟨rfl, hwX⟩
              subst hwX
              rw [show inB (na : Int) 0 15 = true from ha]
              go_wp2_with fail
              refine (l1In_c _ _ _ _).mono ?_
              rintro e wX ⟨rfl, hwX⟩
              subst hwX
              rw [show inB (nb : Int) 0 15 = true from hb]
              go_wp2_with fail
              refine (l1In_c _ _ _ _).mono ?_
              rintro e wX ⟨rfl, hwX⟩
              subst hwX
              rw [show inB (nc : Int) 0 15 = true from hc]
              go_wp2_with fail
              refine (l1In_c _ _ _ _).mono ?_
              rintro e wX ⟨rfl, hwX⟩
              subst hwX
              rw [show inB (nd : Int) 0 15 = true from hd]
              clear HC0 HC1 HC3 HL0 HL1 HL3 hok hsm ha hb hc hd hall
              simp only [Int.toNat_natCast] at hql
              have HNW := nat_words HALL.out
              have HLN : Hid ((l.map Int.toNat).length = 16) := by show _ = _; rw [List.length_map, HL.out]
              have HWN : Hid (Words (l.map Int.toNat)) := HNW.2
              have HEQ : Hid ((l.map Int.toNat).map Int.ofNat = l) := HNW.1
              have RA := HR.out.keep BWA
              clear HNW
              have ON : OwnI ((w.alloc (.cells #[.int .i64 0, .slice none 0 0] 24)).alloc (.cells #[] 2)) (w.heap.size + 1) (.slice (some ⟨w.heap.size + 1, 0, none⟩) 0 0) [] := by
                have h := World.ownsRow_lit (base := w.heap.size + 1) (e := 2) (size := 1) (w.alloc (.cells #[.int .i64 0, .slice none 0 0] 24)) #[] 0 (by rw [size_alloc]; exact Nat.le_refl _) (by unfold maxLen; decide) (by simp)
                rw [size_alloc] at h
                exact h
              have RA2 := RA.keep (alloc_below _ (.cells #[] 2))
              have BW2 : Below w.heap.size w ((w.alloc (.cells #[.int .i64 0, .slice none 0 0] 24)).alloc (.cells #[] 2)) := Below.mk BWA _
              have C2 := (Arr.new w [.int .i64 0, .slice none 0 0] 24).old _ (.cells #[] 2)
              go_wp2_with (at_builtin; go_loud (refine wpList_append_rdI rfl (.tmp 76) (.tmp 77) rfl (w.heap.size + 1) (.slice (some ⟨w.heap.size + 1, 0, none⟩) 0 0) [] rfl ON _ q l rfl RA2 (by have := HL.out; simp; omega) (by simp) ?_); intro v3 w3 k3 hg3)
              rw [List.nil_append] at k3
              have C3 := C2.other hg3 (by simp [Value.ownBlock])
              have BW3 := BW2.grown hg3 BW2.size (fun k hk => by have := ON.ge k hk; omega)
              obtain ⟨g, cap, e3, hbg, hlt3⟩ := World.ownsRow.form k3 (by rw [HL.out]; decide)
              subst e3
              have kN : OwnN w3 (w.heap.size + 1) (.slice (some ⟨g, 0, none⟩) 16 cap) (l.map Int.toNat) := by
                rw [HL.out] at k3
                have h2 : OwnI w3 (w.heap.size + 1) (.slice (some ⟨g, 0, none⟩) 16 cap) ((l.map Int.toNat).map Int.ofNat) := by rw [HEQ.out]; exact k3
                exact h2.toN
              rw [HL.out]
              clear hg3 k3 ON RA RA2 BW2 C2 HEQ
              refine (l4Quarter_c (w.heap.size + 1) g cap (l.map Int.toNat) na nb nc nd w3 kN HLN.out HWN.out ba bb bc bd).mono ?_
              rintro e w4 ⟨rfl, k4, hg4⟩
              have C4 := C3.other hg4 (by simp; omega)
              have BW4 := BW3.grown hg4 BW3.size (fun k hk => by simp at hk; omega)
              have c0 := C4.cell 0
              have c1 := C4.cell 1
              simp at c0 c1
              have fz := C4.frozen
              have kI := k4.toI
              clear kN k4 hg4 C3 BW3
              go_wp2
              refine bodyPost_ret (v := .agg #[.int .i64 0, .slice (some ⟨g, 0, none⟩) 16 cap]) (by simp [results, Try.results5, go_sem, c0, c1]) rfl ⟨_, by rw [hqc.out], ?_, (BW4.setCell (Nat.le_refl _) _).setCell (Nat.le_refl _) _, fun h => absurd hqc.out h⟩
              rw [hql.out]
              exact ((kI.set (Nat.lt_succ_self _) _).set (Nat.lt_succ_self _) _).lower (Nat.le_succ _)

set_option maxRecDepth 4000 in
set_option maxHeartbeats 1000000 in
theorem specQR_s (p : Option Addr) (q : Nat) (l : List Int) (a b c d : Int) (w : World) (hr : RdI w p q l) :
    Calls Try.prog 5 #[.slice p l.length q, .int .i64 a, .int .i64 b, .int .i64 c, .int .i64 d] w fun e w' => ∃ u, e = .returned (.agg #[.int .i64 (qrC l a b c d), u]) ∧ OwnI w' w.heap.size u (qrL l a b c d) ∧ Below w.heap.size w w' ∧ (qrC l a b c d ≠ 0 → u = .slice none 0 0) := by
  by_cases h : l.length = 16
  · exact specQR_x p q l a b c d w hr h
  · rw [show qrC l a b c d = 1 by simp [qrC, h], show qrL l a b c d = [] by simp [qrL, qrC, h]]
    have d1 : ((l.length : Int) != 16) = true := by rw [bne_iff_ne]; omega
    clear h
    go_enter Try.func5, Try.ntmps5
    go_wp2
    exact bodyPost_ret (v := .agg #[.int .i64 1, .slice none 0 0]) (by simp [results, Try.results5, go_sem]) rfl ⟨_, rfl, OwnI_nil _ _, alloc_below _ _, fun _ => rfl⟩
theorem specQR_c (p : Option Addr) (q : Nat) (l : List Int) (a b c d : Int) (w : World) (hr : RdI w p q l) :
    Calls Try.prog 5 #[.slice p l.length q, .int .i64 a, .int .i64 b, .int .i64 c, .int .i64 d] w fun e w' => ∃ u, e = .returned (.agg #[.int .i64 (qrC l a b c d), u]) ∧ OwnI w' w.heap.size u (qrL l a b c d) ∧ Below w.heap.size w w' :=
  (specQR_s p q l a b c d w hr).mono fun _ _ ⟨u, h1, h2, h3, _⟩ => ⟨u, h1, h2, h3⟩
end Go.Proofs.Ytbgdhjeccdooiaa
