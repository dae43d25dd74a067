/- The contracts of chapter 7's functions in the specification, at every argument: code and bytes. What was there stays. -/
import Derived.Test.YtdbpnibcblelbabDoorSch
import Derived.Test.YtdbpnibcblelbabDoorCod
import Derived.Test.YtdbpnibcblelbabDoorPick
namespace Go.Proofs.YtdbpnibcblelbabDoor
open Go.ChangeShapes Go.WideShapes Go.ChangeAt Go.RowKit

theorem rd_nil (w : World) : Rd w none 0 [] := ⟨Nat.le_refl _, by unfold maxLen; decide, fun _ => rfl, fun hp => by simp at hp⟩
set_option maxRecDepth 4000 in
theorem l7Secret_c (p : Option Addr) (q : Nat) (s : List UInt8) (w : World) : Calls Tryd.prog 12 #[.slice p s.length q] w fun e w' => e = .returned (.bool (is32 s)) ∧ w' = w := by
  by_cases h : s.length = 32
  · have d1 : ((s.length : Int) == 32) = true := by rw [beq_iff_eq]; omega
    rw [show is32 s = true by simp [is32, h]]
    clear h
    go_enter Tryd.func12, Tryd.ntmps12
    go_wp2
    go_ret
    exact ⟨rfl, rfl⟩
  · have d1 : ((s.length : Int) == 32) = false := by rw [beq_eq_false_iff_ne]; omega
    rw [show is32 s = false by simp [is32, h]]
    clear h
    go_enter Tryd.func12, Tryd.ntmps12
    go_wp2
    go_ret
    exact ⟨rfl, rfl⟩





set_option maxRecDepth 4000 in
set_option maxHeartbeats 1000000 in
theorem l7Export_c (p p2 : Option Addr) (q q2 : Nat) (exporter l ctx : List UInt8) (n : Nat) (w : World) (hr : Rd w p q exporter) (hr2 : Rd w p2 q2 ctx) (hk : exporter.length ≤ 64) (hl : l.length ≤ 40) (hl2 : ctx.length ≤ 100) (hn : n ≤ 255) :
    Calls Tryd.prog 17 #[.slice p exporter.length q, .string (strB l), .slice p2 ctx.length q2, .int .i64 (n : Int)] w fun e w' => ∃ u, e = .returned u ∧ Own w' w.heap.size u (exportN exporter l ctx n) ∧ Below w.heap.size w w' := by
  have HE : Hid (exportN exporter l ctx n = expLabN (deriveN exporter l []) exporterB (digestN ctx) n) := rfl
  have K : Hid (∀ w, Rd w p q exporter → Calls Tryd.prog 25 #[.slice p exporter.length q, .string (strB l), .slice none 0 0] w fun e w' => ∃ u, e = .returned u ∧ Own w' w.heap.size u (deriveN exporter l []) ∧ Below w.heap.size w w') := fun w h => l3Derive_c p none q 0 exporter l [] w h (rd_nil _) hk hl (by decide)
  have KD : Hid (∀ w, Rd w p2 q2 ctx → Calls Tryd.prog 26 #[.slice p2 ctx.length q2] w fun e w' => ∃ u, e = .returned u ∧ Own w' w.heap.size u (digestN ctx) ∧ Below w.heap.size w w') := fun w h => l2Digest_c p2 q2 ctx w h (by omega)
  have HL : Hid ((deriveN exporter l []).length = 32) := deriveN_len _ _ _
  have HL2 : Hid ((digestN ctx).length = 32) := digestN_len _
  have KE : Hid (∀ (w : World) (a b : Option Addr) (c d : Nat) (x y : List UInt8), x.length = 32 → y.length = 32 → Rd w a c x → Rd w b d y → Calls Tryd.prog 24 #[.slice a x.length c, .string ⟨#[101, 120, 112, 111, 114, 116, 101, 114]⟩, .slice b y.length d, .int .i64 (n : Int)] w fun e w' => ∃ u, e = .returned u ∧ Own w' w.heap.size u (expLabN x exporterB y n) ∧ Below w.heap.size w w') := fun w a b c d x y hx hy h h' => by
    rw [exporter_str]
    exact l3ExpandLabel_c a b c d x exporterB y n w h h' (by omega) (by decide) (by omega) hn
  clear hk hl hl2 hn
  go_enter Tryd.func17, Tryd.ntmps17
  go_wp2_with fail
  refine (K.out _ hr).mono ?_
  rintro e w1 ⟨u1, rfl, k1, hb1⟩
  obtain ⟨a1, c1, rfl, rd1⟩ := k1.rd
  obtain ⟨ek, HEK⟩ : ∃ ek, Hid (ek = deriveN exporter l []) := ⟨_, rfl⟩
  rw [← HEK.out] at HL HE rd1 ⊢
  have hz := hb1.size
  clear k1 K
  go_wp2_with fail
  refine (KD.out _ (hr2.keep hb1)).mono ?_
  rintro e w2 ⟨u2, rfl, k2, hb2⟩
  obtain ⟨a2, c2, rfl, rd2⟩ := k2.rd
  obtain ⟨dg, HDG⟩ : ∃ ek, Hid (ek = digestN ctx) := ⟨_, rfl⟩
  rw [← HDG.out] at HL2 HE rd2 ⊢
  have hz2 := Nat.le_trans hz hb2.size
  replace rd1 := rd1.keep hb2
  replace hb1 := Below.step hb1 hb2
  clear k2 KD hb2
  go_wp2_with fail
  refine (KE.out _ a1 a2 c1 c2 ek dg HL.out HL2.out rd1 rd2).mono ?_
  rintro e w3 ⟨u3, rfl, k3, hb3⟩
  go_wp2
  go_ret
  exact ⟨_, rfl, by rw [HE.out]; exact k3.lower hz2, Below.step hb1 hb3⟩


end Go.Proofs.YtdbpnibcblelbabDoor

