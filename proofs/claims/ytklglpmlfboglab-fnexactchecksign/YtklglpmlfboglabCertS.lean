/- The contracts of the certificates in the specification: l12One, l12At, l12Fault, CertsFault, l12Pack, PackCert, l12Unpack, UnpackCert, LookCert, at every argument. What was there stays. -/
import Derived.Test.YtklglpmlfboglabCert
import Derived.Test.YtklglpmlfboglabJoint2
import Derived.Test.YtklglpmlfboglabJoint1
import Derived.Test.YtklglpmlfboglabPad
import Derived.Test.YtklglpmlfboglabPick
namespace Go.Proofs.Ytklglpmlfboglab
open Go.ChangeShapes Go.WideShapes Go.ChangeAt Go.RowKit

set_option maxRecDepth 4000 in
set_option maxHeartbeats 400000 in
theorem l12One_c (b o : Nat) (c : CertD) (w : World) (c0 : w.cell? ⟨b, o, none⟩ = some (.int .i64 c.1)) (c1 : w.cell? ⟨b, o + 1, none⟩ = some (.int .i64 c.2.1)) (c2 : w.cell? ⟨b, o + 2, none⟩ = some (.int .i64 c.2.2)) :
    Calls Try.prog 51 #[.pointer (some ⟨b, o, none⟩)] w fun e w' => e = .returned (.bool (okC c)) ∧ w' = w := by
  cases h1 : inB c.1 1 99
  · rw [show okC c = false by simp [okC, h1]]
    go_enter Try.func51, Try.ntmps51
    go_wp2_with fail
    refine (l1In_c _ _ _ _).mono ?_
    rintro e w' ⟨rfl, rfl⟩
    rw [h1]
    go_wp2
    go_ret
    exact ⟨rfl, rfl⟩
  · cases h2 : inB c.2.1 1 9
    · rw [show okC c = false by simp [okC, h2]]
      go_enter Try.func51, Try.ntmps51
      go_wp2_with fail
      refine (l1In_c _ _ _ _).mono ?_
      rintro e w' ⟨rfl, rfl⟩
      rw [h1]
      go_wp2_with fail
      refine (l1In_c _ _ _ _).mono ?_
      rintro e w' ⟨rfl, rfl⟩
      rw [h2]
      go_wp2
      go_ret
      exact ⟨rfl, rfl⟩
    · rw [show okC c = inB c.2.2 0 9999 by simp [okC, h1, h2]]
      go_enter Try.func51, Try.ntmps51
      go_wp2_with fail
      refine (l1In_c _ _ _ _).mono ?_
      rintro e w' ⟨rfl, rfl⟩
      rw [h1]
      go_wp2_with fail
      refine (l1In_c _ _ _ _).mono ?_
      rintro e w' ⟨rfl, rfl⟩
      rw [h2]
      go_wp2_with fail
      refine (l1In_c _ _ _ _).mono ?_
      rintro e w' ⟨rfl, rfl⟩
      go_wp2
      go_ret
      exact ⟨rfl, rfl⟩
/-- Where the first one of that number stands; -1: nowhere. -/
def ixC (l : List CertD) (id : Int) : Int := if hasC l id then (l.findIdx fun c => c.1 == id : Nat) else -1
theorem ixC_at {l : List CertD} {k : Nat} {a : CertD} {id : Int} (h : l[k]? = some a) (hn : hasC (l.take k) id = false) (he : a.1 = id) : ixC l id = k := by
  unfold ixC
  rw [if_pos (hasC_at h he)]
  congr 1
  obtain ⟨hk, ha⟩ := List.getElem?_eq_some_iff.1 h
  refine (List.findIdx_eq hk).2 ⟨by rw [ha]; simpa using he, fun j hj => ?_⟩
  simp only [hasC, List.any_eq_false] at hn
  have := hn l[j] (by rw [List.mem_take_iff_getElem]; exact ⟨j, by omega, rfl⟩)
  simpa using this
theorem ixC_none {l : List CertD} {id : Int} (h : hasC l id = false) : ixC l id = -1 := by unfold ixC; rw [h]; rfl
theorem ixC_some {l : List CertD} {id : Int} (h : hasC l id = true) : ∃ k : Nat, ixC l id = (k : Int) ∧ l[k]? = some (foC l id) ∧ (foC l id).1 = id := by
  refine ⟨l.findIdx fun c => c.1 == id, by unfold ixC; rw [if_pos h], ?_⟩
  simp only [hasC, List.any_eq_true] at h
  have hlt : l.findIdx (fun c => c.1 == id) < l.length := List.findIdx_lt_length.2 h
  have hp := List.findIdx_getElem (w := hlt)
  have e : foC l id = l[l.findIdx (fun c => c.1 == id)] := by
    unfold foC atC
    rw [List.find?_eq_getElem?_findIdx, List.getElem?_eq_getElem hlt]
    rfl
  rw [e]
  exact ⟨List.getElem?_eq_getElem hlt, by simpa using hp⟩
theorem ixC_self {l : List CertD} {k : Nat} {a : CertD} (h : l[k]? = some a) : (ixC l a.1 = (k : Int)) ↔ hasC (l.take k) a.1 = false := by
  constructor
  · intro he
    cases hh : hasC (l.take k) a.1
    · rfl
    · exfalso
      simp only [hasC, List.any_eq_true] at hh
      obtain ⟨x, hx, hx2⟩ := hh
      rw [List.mem_take_iff_getElem] at hx
      obtain ⟨j, hj, rfl⟩ := hx
      unfold ixC at he
      rw [if_pos (hasC_at h rfl)] at he
      have he2 : (l.findIdx fun c => c.1 == a.1) = k := by omega
      have := List.not_of_lt_findIdx (xs := l) (p := fun c => c.1 == a.1) (i := j) (by omega)
      rw [hx2] at this; cases this
  · intro hn; exact ixC_at h hn rfl

set_option maxRecDepth 4000 in
set_option maxHeartbeats 400000 in
theorem l12At_c (l : List CertD) (p : Option Addr) (q : Nat) (id : Int) (w : World) (hr : RdL certC w p q l) :
    Calls Try.prog 52 #[.slice p l.length q, .int .i64 id] w fun e w' => e = .returned (.int .i64 (ixC l id)) ∧ w' = w := by
  have HR : Hid (RdL certC w p q l) := hr
  have hq1 : l.length ≤ q := hr.1
  have hq2 : q ≤ 2 ^ 63 - 1 := hr.2.1
  clear hr
  go_enter Try.func52, Try.ntmps52
  go_wp2
  go_loopw [5] (fun i wr => wr = w ∧ ∃ k : Nat, k ≤ l.length ∧ i = .int .i64 k ∧ hasC (l.take k) id = false)
    (fun i _ => l.length - (intOf i).toNat)
  case atStart => exact ⟨rfl, 0, Nat.zero_le _, rfl, hasC_zero _ _⟩
  case round =>
    obtain ⟨rfl, k, hk, rfl, hn⟩ := hrel
    by_cases hlt : k < l.length
    · have hI : (k : Int) < (l.length : Int) := by omega
      obtain ⟨b, o, e1, hc⟩ := HR.out.2.2.2 (by omega)
      subst e1
      obtain ⟨a, ha⟩ : ∃ a, l[k]? = some a := ⟨l[k], by simp [hlt]⟩
      obtain ⟨us, hrep, hcell⟩ := hc k a ha
      obtain rfl := cert_rep hrep
      have c0 := hcell 0 _ rfl
      rw [show certC.n = 3 from rfl] at c0
      rw [Nat.add_zero] at c0
      clear hc hcell hrep
      by_cases he : a.1 = id
      · have d : (a.1 == id) = true := by rw [beq_iff_eq]; exact he
        have HE : Hid (ixC l id = k) := ixC_at ha hn he
        clear he hn
        go_wp2
        go_ret
        exact ⟨by rw [HE.out]; rfl, rfl⟩
      · have d : (a.1 == id) = false := by rw [beq_eq_false_iff_ne]; exact he
        have hn2 : Hid (hasC (l.take (k + 1)) id = false) := by show _ = _; rw [hasC_take ha, hn, d]; rfl
        clear he hn
        go_wp2
        go_roundw
        case rel => exact ⟨trivial, k + 1, by omega, by go_num, hn2.out⟩
        case measure => simp [intOf]; omega
    · have e : k = l.length := by omega
      subst e
      rw [List.take_length] at hn
      go_wp2
      go_ret
      exact ⟨by rw [ixC_none hn]; rfl, rfl⟩

set_option maxRecDepth 4000 in
set_option maxHeartbeats 400000 in
theorem l12Fault_c (l : List CertD) (p : Option Addr) (q : Nat) (w : World) (hr : RdL certC w p q l) :
    Calls Try.prog 36 #[.slice p l.length q] w fun e w' => e = .returned (.int .i64 (ctC l)) ∧ w' = w := by
  have HR : Hid (RdL certC w p q l) := hr
  have hq1 : l.length ≤ q := hr.1
  have hq2 : q ≤ 2 ^ 63 - 1 := hr.2.1
  clear hr
  by_cases hl : l.length ≤ 8
  · have hlI : ¬ (8 < (l.length : Int)) := by omega
    have HC : Hid (ctC l = cgC [] l) := by show _ = _; rw [ctC, if_pos hl]
    go_enter Try.func36, Try.ntmps36
    go_wp2
    go_loopw [3] (fun i wr => wr = w ∧ ∃ k : Nat, k ≤ l.length ∧ i = .int .i64 k ∧ ctC l = cgC (l.take k) (l.drop k))
      (fun i _ => l.length - (intOf i).toNat)
    case atStart => exact ⟨rfl, 0, Nat.zero_le _, rfl, HC.out⟩
    case round =>
      obtain ⟨rfl, k, hk, rfl, hn⟩ := hrel
      by_cases hlt : k < l.length
      · have hI : (k : Int) < (l.length : Int) := by omega
        obtain ⟨b, o, e1, hc⟩ := HR.out.2.2.2 (by omega)
        subst e1
        obtain ⟨a, ha⟩ : ∃ a, l[k]? = some a := ⟨l[k], by simp [hlt]⟩
        obtain ⟨us, hrep, hcell⟩ := hc k a ha
        obtain rfl := cert_rep hrep
        have c0 := hcell 0 _ rfl
        have c1 := hcell 1 _ rfl
        have c2 := hcell 2 _ rfl
        rw [show certC.n = 3 from rfl] at c0 c1 c2
        rw [Nat.add_zero] at c0
        have K1 : Hid (Calls Try.prog 51 #[.pointer (some ⟨b, o + k * 3, none⟩)] wr fun e w' => e = .returned (.bool (okC a)) ∧ w' = wr) := l12One_c b (o + k * 3) a wr c0 c1 c2
        have K2 : Hid (Calls Try.prog 52 #[.slice (some ⟨b, o, none⟩) l.length q, .int .i64 a.1] wr fun e w' => e = .returned (.int .i64 (ixC l a.1)) ∧ w' = wr) := l12At_c l _ q a.1 wr HR.out
        clear hc hcell hrep c1 c2
        cases ho : okC a
        · have hn2 : Hid (ctC l = 3) := hn.trans (cgC_bad ha ho)
          rw [ho] at K1
          clear hn
          go_wp2_with fail
          refine K1.out.mono ?_
          rintro e w2 ⟨rfl, rfl⟩
          go_wp2
          go_ret
          exact ⟨by rw [hn2.out]; rfl, rfl⟩
        · rw [ho] at K1
          by_cases ht : ixC l a.1 = (k : Int)
          · have hn2 : Hid (ctC l = cgC (l.take (k + 1)) (l.drop (k + 1))) := hn.trans (cgC_step ha ho ((ixC_self ha).1 ht))
            rw [ht] at K2
            clear hn ht
            go_wp2_with fail
            refine K1.out.mono ?_
            rintro e w2 ⟨rfl, rfl⟩
            go_wp2_with fail
            refine K2.out.mono ?_
            rintro e w2 ⟨rfl, rfl⟩
            go_wp2_with fail
            go_roundw
            case rel => exact ⟨trivial, k + 1, by omega, by go_num, hn2.out⟩
            case measure => simp [intOf]; omega
          · have hn2 : Hid (ctC l = 6) := hn.trans (cgC_taken ha ho (by cases h : hasC (l.take k) a.1; exact absurd ((ixC_self ha).2 h) ht; rfl))
            obtain ⟨z, hz⟩ : ∃ z, Hid (ixC l a.1 = z) := ⟨_, rfl⟩
            rw [hz.out] at K2 ht
            have d : (z != (k : Int)) = true := by rw [bne_iff_ne]; exact ht
            clear hn ht hz
            go_wp2_with fail
            refine K1.out.mono ?_
            rintro e w2 ⟨rfl, rfl⟩
            go_wp2_with fail
            refine K2.out.mono ?_
            rintro e w2 ⟨rfl, rfl⟩
            go_wp2
            go_ret
            exact ⟨by rw [hn2.out]; rfl, rfl⟩
      · have e : k = l.length := by omega
        subst e
        have hn2 : Hid (ctC l = 0) := hn.trans (cgC_end l)
        clear hn
        go_wp2
        go_ret
        exact ⟨by rw [hn2.out]; rfl, rfl⟩
  · have hlI : 8 < (l.length : Int) := by omega
    rw [show ctC l = 2 by rw [ctC, if_neg hl]]
    clear hl
    go_enter Try.func36, Try.ntmps36
    go_wp2
    go_ret
    exact ⟨rfl, rfl⟩
theorem bytesLit_own (w : World) (bs : List UInt8) (B : Nat) (hB : B ≤ w.heap.size) (hl : bs.length ≤ 1000) : Own (w.alloc (.cells (bs.map u8v).toArray 5)) B (.slice (some ⟨w.heap.size, 0, none⟩) bs.length bs.length) bs := by
  have h := World.ownsRow_lit (base := B) (e := 5) (size := 1) w (bs.map u8v).toArray bs.length hB (by unfold maxLen; omega) (by simp)
  exact h
theorem u8v_mod {a : Int} (h : 0 ≤ a) : u8v (UInt8.ofNat a.toNat) = .int .u8 (a % 256) := by
  unfold u8v; rw [UInt8.toNat_ofNat']; congr 1; omega
theorem pcL_put {c : CertD} : pcL c = [UInt8.ofNat c.1.toNat, UInt8.ofNat c.2.1.toNat] ++ putB c.2.2.toNat 2 := by
  have q : ∀ (m n : Nat), m % 256 = n % 256 → UInt8.ofNat m = UInt8.ofNat n := fun m n h => by
    apply UInt8.toNat_inj.1; rw [UInt8.toNat_ofNat', UInt8.toNat_ofNat']; exact h
  simp only [pcL, putB, List.cons_append, List.nil_append, List.cons.injEq, true_and, and_true]
  exact ⟨q _ _ (by omega), q _ _ (by omega)⟩
end Go.Proofs.Ytklglpmlfboglab

