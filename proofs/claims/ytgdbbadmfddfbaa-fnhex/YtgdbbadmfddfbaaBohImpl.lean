/- The contract of BytesOfHex in the program. -/
import Derived.Test.YtgdbbadmfddfbaaReadHex
namespace Go.Proofs.Ytgdbbadmfddfbaa
open Go.ChangeShapes Go.WideShapes Go.ChangeAt Go.RowKit

theorem bohCode_many {l : List UInt8} (h : ¬ l.length ≤ 1200) : bohCode l = 2 ∧ bohBytes l = [] := by
  refine ⟨by simp [bohCode, h], ?_⟩
  have h1 : bohOk l = false := by simp [bohOk, h]
  simp [bohBytes, h1]
theorem bohCode_ok {l : List UInt8} (h : l.length ≤ 1200) (ho : bohOk l = true) : bohCode l = 0 := by simp [bohCode, h, ho]
theorem bohCode_bad {l : List UInt8} (h : l.length ≤ 1200) (ho : bohOk l = false) : bohCode l = 5 ∧ bohBytes l = [] := ⟨by simp [bohCode, h, ho], by simp [bohBytes, ho]⟩

set_option maxHeartbeats 1000000 in
theorem implBoh_c (l : List UInt8) (w : World) (hm : l.length ≤ 1048576) :
    Calls Try.prog 15 #[.string (strB l)] w fun e w' => ∃ u, e = .returned (.agg #[.int .i64 (bohCode l), u]) ∧ Own w' w.heap.size u (bohBytes l) ∧ Below w.heap.size w w' := by
  have hss := strB_size l
  by_cases hl : l.length ≤ 1200
  · cases hok : bohOk l
    · obtain ⟨e1, e2⟩ := bohCode_bad hl hok
      rw [e1, e2]
      have HE : Hid (bohBytes l = []) := e2
      clear e1 e2
      go_enter Try.func15, Try.ntmps15
      go_wp2_with fail
      refine (readHex_c l _ hl).mono ?_
      rintro e w1 ⟨u, rfl, ho, hb⟩
      rw [HE.out] at ho
      obtain ⟨p, c, rfl, -⟩ := ho.rd
      obtain ⟨hc, hf⟩ := bcell hb
      rw [size_alloc] at hc hf
      go_wp2
      have hres := Below.res hb
      exact bodyPost_ret (v := .agg #[.int .i64 5, .slice none 0 0]) (by simp [results, Try.results15, go_sem, hc]) rfl ⟨_, rfl, World.ownsRow_nil _ _ _ _, (hres.setCell (Nat.le_refl _) _).setCell (Nat.le_refl _) _⟩
    · rw [bohCode_ok hl hok]
      go_enter Try.func15, Try.ntmps15
      go_wp2_with fail
      refine (readHex_c l _ hl).mono ?_
      rintro e w1 ⟨u, rfl, ho, hb⟩
      obtain ⟨p, c, rfl, -⟩ := ho.rd
      obtain ⟨hc, hf⟩ := bcell hb
      rw [size_alloc] at hc hf ho
      go_wp2
      have hres := Below.res hb
      refine bodyPost_ret (v := .agg #[.int .i64 0, .slice p (bohBytes l).length c]) (by simp [results, Try.results15, go_sem, hc]) rfl ⟨_, rfl, ?_, (hres.setCell (Nat.le_refl _) _).setCell (Nat.le_refl _) _⟩
      exact ((ho.set (Nat.lt_succ_self _) _).set (Nat.lt_succ_self _) _).lower (Nat.le_succ _)
  · obtain ⟨e1, e2⟩ := bohCode_many hl
    rw [e1, e2]
    clear e1 e2
    go_enter Try.func15, Try.ntmps15
    go_wp2
    exact bodyPost_ret (v := .agg #[.int .i64 2, .slice none 0 0]) (by simp [results, Try.results15, go_sem]) rfl ⟨_, rfl, World.ownsRow_nil _ _ _ _, alloc_below _ _⟩
end Go.Proofs.Ytgdbbadmfddfbaa
