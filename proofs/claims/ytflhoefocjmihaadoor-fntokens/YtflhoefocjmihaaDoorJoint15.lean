/- The contracts of chapter 7's functions in the specification, at every argument: code and bytes. What was there stays. -/
import Derived.Test.YtflhoefocjmihaaDoorJoint13
import Derived.Test.YtflhoefocjmihaaDoorCod
import Derived.Test.YtflhoefocjmihaaDoorPick
import Derived.Test.YtflhoefocjmihaaDoorAuth
import Derived.Test.YtflhoefocjmihaaDoorJoint14
import Derived.Test.YtflhoefocjmihaaDoorJoint8
import Derived.Test.YtflhoefocjmihaaDoorJoint4
import Derived.Test.YtflhoefocjmihaaDoorPad
namespace Go.Proofs.YtflhoefocjmihaaDoor
open Go.ChangeShapes Go.WideShapes Go.ChangeAt Go.RowKit

theorem rd_nil (w : World) : Rd w none 0 [] := ⟨Nat.le_refl _, by unfold maxLen; decide, fun _ => rfl, fun hp => by simp at hp⟩
set_option maxRecDepth 4000 in
theorem l7Secret_c (p : Option Addr) (q : Nat) (s : List UInt8) (w : World) : Calls Tryd.prog 28 #[.slice p s.length q] w fun e w' => e = .returned (.bool (is32 s)) ∧ w' = w := by
  by_cases h : s.length = 32
  · have d1 : ((s.length : Int) == 32) = true := by rw [beq_iff_eq]; omega
    rw [show is32 s = true by simp [is32, h]]
    clear h
    go_enter Tryd.func28, Tryd.ntmps28
    go_wp2
    go_ret
    exact ⟨rfl, rfl⟩
  · have d1 : ((s.length : Int) == 32) = false := by rw [beq_eq_false_iff_ne]; omega
    rw [show is32 s = false by simp [is32, h]]
    clear h
    go_enter Tryd.func28, Tryd.ntmps28
    go_wp2
    go_ret
    exact ⟨rfl, rfl⟩





set_option maxRecDepth 4000 in
set_option maxHeartbeats 1000000 in
theorem l7Export_c (p p2 : Option Addr) (q q2 : Nat) (exporter l ctx : List UInt8) (n : Nat) (w : World) (hr : Rd w p q exporter) (hr2 : Rd w p2 q2 ctx) (hk : exporter.length ≤ 64) (hl : l.length ≤ 40) (hl2 : ctx.length ≤ 100) (hn : n ≤ 255) :
    Calls Tryd.prog 37 #[.slice p exporter.length q, .string (strB l), .slice p2 ctx.length q2, .int .i64 (n : Int)] w fun e w' => ∃ u, e = .returned u ∧ Own w' w.heap.size u (exportN exporter l ctx n) ∧ Below w.heap.size w w' := by
  have HE : Hid (exportN exporter l ctx n = expLabN (deriveN exporter l []) exporterB (digestN ctx) n) := rfl
  have K : Hid (∀ w, Rd w p q exporter → Calls Tryd.prog 58 #[.slice p exporter.length q, .string (strB l), .slice none 0 0] w fun e w' => ∃ u, e = .returned u ∧ Own w' w.heap.size u (deriveN exporter l []) ∧ Below w.heap.size w w') := fun w h => l3Derive_c p none q 0 exporter l [] w h (rd_nil _) hk hl (by decide)
  have KD : Hid (∀ w, Rd w p2 q2 ctx → Calls Tryd.prog 59 #[.slice p2 ctx.length q2] w fun e w' => ∃ u, e = .returned u ∧ Own w' w.heap.size u (digestN ctx) ∧ Below w.heap.size w w') := fun w h => l2Digest_c p2 q2 ctx w h (by omega)
  have HL : Hid ((deriveN exporter l []).length = 32) := deriveN_len _ _ _
  have HL2 : Hid ((digestN ctx).length = 32) := digestN_len _
  have KE : Hid (∀ (w : World) (a b : Option Addr) (c d : Nat) (x y : List UInt8), x.length = 32 → y.length = 32 → Rd w a c x → Rd w b d y → Calls Tryd.prog 57 #[.slice a x.length c, .string ⟨#[101, 120, 112, 111, 114, 116, 101, 114]⟩, .slice b y.length d, .int .i64 (n : Int)] w fun e w' => ∃ u, e = .returned u ∧ Own w' w.heap.size u (expLabN x exporterB y n) ∧ Below w.heap.size w w') := fun w a b c d x y hx hy h h' => by
    rw [exporter_str]
    exact l3ExpandLabel_c a b c d x exporterB y n w h h' (by omega) (by decide) (by omega) hn
  clear hk hl hl2 hn
  go_enter Tryd.func37, Tryd.ntmps37
  go_wp2_with fail
  refine (K.out _ hr).mono ?_
  rintro e w1 ⟨u1, rfl, k1, hb1⟩
  obtain ⟨a1, c1, rfl, rd1⟩ := k1.rd
  obtain ⟨ek, HEK⟩ : ∃ ek, Hid (ek = deriveN exporter l []) := ⟨_, rfl⟩
  rw [← HEK.out] at HL HE rd1 ⊢
  have hz := hb1.size
  clear k1 K
  go_wp2_with fail
  refine (KD.out _ (hr2.keep hb1)).mono ?_
  rintro e w2 ⟨u2, rfl, k2, hb2⟩
  obtain ⟨a2, c2, rfl, rd2⟩ := k2.rd
  obtain ⟨dg, HDG⟩ : ∃ ek, Hid (ek = digestN ctx) := ⟨_, rfl⟩
  rw [← HDG.out] at HL2 HE rd2 ⊢
  have hz2 := Nat.le_trans hz hb2.size
  replace rd1 := rd1.keep hb2
  replace hb1 := Below.step hb1 hb2
  clear k2 KD hb2
  go_wp2_with fail
  refine (KE.out _ a1 a2 c1 c2 ek dg HL.out HL2.out rd1 rd2).mono ?_
  rintro e w3 ⟨u3, rfl, k3, hb3⟩
  go_wp2
  go_ret
  exact ⟨_, rfl, by rw [HE.out]; exact k3.lower hz2, Below.step hb1 hb3⟩


end Go.Proofs.YtflhoefocjmihaaDoor

/- Chapter 13 of the specification: what is asked (l13Role, l13Asked, l13Context) and the key (l13Key), AuthKey. No condition but lengths within the model's. -/
namespace Go.Proofs.YtflhoefocjmihaaDoor
open Go.RowKit

theorem l13Role_c (r : Int) (w : World) : Calls Tryd.prog 55 #[.int .i64 r] w fun e w' => e = .returned (.bool (roleB r)) ∧ w' = w := by
  by_cases h1 : r = 1
  · subst h1
    go_enter Tryd.func55, Tryd.ntmps55
    go_wp2
    go_ret
    exact ⟨rfl, rfl⟩
  · by_cases h2 : r = 2
    · subst h2
      go_enter Tryd.func55, Tryd.ntmps55
      go_wp2
      go_ret
      exact ⟨rfl, rfl⟩
    · have d1 : (r == 1) = false := by simpa using h1
      have d2 : (r == 2) = false := by simpa using h2
      rw [show roleB r = false by simp [roleB, h1, h2]]
      go_enter Tryd.func55, Tryd.ntmps55
      go_wp2
      go_ret
      exact ⟨rfl, rfl⟩
theorem l13Asked_c (p : Option Addr) (q : Nat) (x : List UInt8) (r : Int) (w : World) : Calls Tryd.prog 34 #[.slice p x.length q, .int .i64 r] w fun e w' => e = .returned (.int .i64 (akC x r)) ∧ w' = w := by
  unfold akC
  cases h1 : is32 x
  · go_enter Tryd.func34, Tryd.ntmps34
    go_wp2_with fail
    refine (l7Secret_c p q x _).mono ?_
    rintro e w1 ⟨rfl, rfl⟩
    rw [h1]
    go_wp2
    go_ret
    exact ⟨rfl, rfl⟩
  · cases h2 : roleB r
    · go_enter Tryd.func34, Tryd.ntmps34
      go_wp2_with fail
      refine (l7Secret_c p q x _).mono ?_
      rintro e w1 ⟨rfl, rfl⟩
      rw [h1]
      go_wp2_with fail
      refine (l13Role_c r _).mono ?_
      rintro e w1 ⟨rfl, rfl⟩
      rw [h2]
      go_wp2
      go_ret
      exact ⟨rfl, rfl⟩
    · go_enter Tryd.func34, Tryd.ntmps34
      go_wp2_with fail
      refine (l7Secret_c p q x _).mono ?_
      rintro e w1 ⟨rfl, rfl⟩
      rw [h1]
      go_wp2_with fail
      refine (l13Role_c r _).mono ?_
      rintro e w1 ⟨rfl, rfl⟩
      rw [h2]
      go_wp2
      go_ret
      exact ⟨rfl, rfl⟩
theorem l13Context_c (p : Option Addr) (q : Nat) (c : List UInt8) (w : World) : Calls Tryd.prog 56 #[.slice p c.length q] w fun e w' => e = .returned (.bool (ctxB c)) ∧ w' = w := by
  unfold ctxB
  go_enter Tryd.func56, Tryd.ntmps56
  go_wp2_with fail
  refine (l1In_c _ _ _ _).mono ?_
  rintro e w1 ⟨rfl, rfl⟩
  go_wp2
  go_ret
  exact ⟨rfl, rfl⟩
end Go.Proofs.YtflhoefocjmihaaDoor

/- The contracts of the certificates in the specification: l12One, l12At, l12Fault, CertsFault, l12Pack, PackCert, l12Unpack, UnpackCert, LookCert, at every argument. What was there stays. -/
namespace Go.Proofs.YtflhoefocjmihaaDoor
open Go.ChangeShapes Go.WideShapes Go.ChangeAt Go.RowKit

/-- Where the first one of that number stands; -1: nowhere. -/
def ixC (l : List CertD) (id : Int) : Int := if hasC l id then (l.findIdx fun c => c.1 == id : Nat) else -1
theorem ixC_at {l : List CertD} {k : Nat} {a : CertD} {id : Int} (h : l[k]? = some a) (hn : hasC (l.take k) id = false) (he : a.1 = id) : ixC l id = k := by
  unfold ixC
  rw [if_pos (hasC_at h he)]
  congr 1
  obtain ⟨hk, ha⟩ := List.getElem?_eq_some_iff.1 h
  refine (List.findIdx_eq hk).2 ⟨by rw [ha]; simpa using he, fun j hj => ?_⟩
  simp only [hasC, List.any_eq_false] at hn
  have := hn l[j] (by rw [List.mem_take_iff_getElem]; exact ⟨j, by omega, rfl⟩)
  simpa using this
theorem ixC_none {l : List CertD} {id : Int} (h : hasC l id = false) : ixC l id = -1 := by unfold ixC; rw [h]; rfl
theorem ixC_some {l : List CertD} {id : Int} (h : hasC l id = true) : ∃ k : Nat, ixC l id = (k : Int) ∧ l[k]? = some (foC l id) ∧ (foC l id).1 = id := by
  refine ⟨l.findIdx fun c => c.1 == id, by unfold ixC; rw [if_pos h], ?_⟩
  simp only [hasC, List.any_eq_true] at h
  have hlt : l.findIdx (fun c => c.1 == id) < l.length := List.findIdx_lt_length.2 h
  have hp := List.findIdx_getElem (w := hlt)
  have e : foC l id = l[l.findIdx (fun c => c.1 == id)] := by
    unfold foC atC
    rw [List.find?_eq_getElem?_findIdx, List.getElem?_eq_getElem hlt]
    rfl
  rw [e]
  exact ⟨List.getElem?_eq_getElem hlt, by simpa using hp⟩
theorem ixC_self {l : List CertD} {k : Nat} {a : CertD} (h : l[k]? = some a) : (ixC l a.1 = (k : Int)) ↔ hasC (l.take k) a.1 = false := by
  constructor
  · intro he
    cases hh : hasC (l.take k) a.1
    · rfl
    · exfalso
      simp only [hasC, List.any_eq_true] at hh
      obtain ⟨x, hx, hx2⟩ := hh
      rw [List.mem_take_iff_getElem] at hx
      obtain ⟨j, hj, rfl⟩ := hx
      unfold ixC at he
      rw [if_pos (hasC_at h rfl)] at he
      have he2 : (l.findIdx fun c => c.1 == a.1) = k := by omega
      have := List.not_of_lt_findIdx (xs := l) (p := fun c => c.1 == a.1) (i := j) (by omega)
      rw [hx2] at this; cases this
  · intro hn; exact ixC_at h hn rfl


theorem bytesLit_own (w : World) (bs : List UInt8) (B : Nat) (hB : B ≤ w.heap.size) (hl : bs.length ≤ 1000) : Own (w.alloc (.cells (bs.map u8v).toArray 5)) B (.slice (some ⟨w.heap.size, 0, none⟩) bs.length bs.length) bs := by
  have h := World.ownsRow_lit (base := B) (e := 5) (size := 1) w (bs.map u8v).toArray bs.length hB (by unfold maxLen; omega) (by simp)
  exact h
theorem u8v_mod {a : Int} (h : 0 ≤ a) : u8v (UInt8.ofNat a.toNat) = .int .u8 (a % 256) := by
  unfold u8v; rw [UInt8.toNat_ofNat']; congr 1; omega
theorem pcL_put {c : CertD} : pcL c = [UInt8.ofNat c.1.toNat, UInt8.ofNat c.2.1.toNat] ++ putB c.2.2.toNat 2 := by
  have q : ∀ (m n : Nat), m % 256 = n % 256 → UInt8.ofNat m = UInt8.ofNat n := fun m n h => by
    apply UInt8.toNat_inj.1; rw [UInt8.toNat_ofNat', UInt8.toNat_ofNat']; exact h
  simp only [pcL, putB, List.cons_append, List.nil_append, List.cons.injEq, true_and, and_true]
  exact ⟨q _ _ (by omega), q _ _ (by omega)⟩
end Go.Proofs.YtflhoefocjmihaaDoor

