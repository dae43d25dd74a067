/- Chapter 13 of the specification: faults (l13Fault), AuthKey, AuthDigest, MakeAuth: code and bytes at every argument. What was there stays. -/
import Derived.Test.YtdbpnibcblelbaaDoorAuthT
namespace Go.Proofs.YtdbpnibcblelbaaDoor
open Go.RowKit

theorem akC_len {x : List UInt8} {r : Int} (h : akC x r = 0) : x.length = 32 := by
  unfold akC at h
  cases h1 : is32 x
  · rw [h1] at h; cases h
  · simpa [is32] using h1
set_option maxRecDepth 4000 in
set_option maxHeartbeats 1000000 in
theorem l13Fault_c (p p2 : Option Addr) (q q2 b o : Nat) (x ctx : List UInt8) (r : Int) (c : CertD) (w : World) (c0 : w.cell? ⟨b, o, none⟩ = some (.int .i64 c.1)) (c1 : w.cell? ⟨b, o + 1, none⟩ = some (.int .i64 c.2.1)) (c2 : w.cell? ⟨b, o + 2, none⟩ = some (.int .i64 c.2.2)) :
    Calls Tryd.prog 22 #[.slice p x.length q, .int .i64 r, .slice p2 ctx.length q2, .pointer (some ⟨b, o, none⟩)] w fun e w' => e = .returned (.int .i64 (adC x r ctx c)) ∧ w' = w := by
  have KA : Hid (Calls Tryd.prog 16 #[.slice p x.length q, .int .i64 r] w fun e w' => e = .returned (.int .i64 (akC x r)) ∧ w' = w) := l13Asked_c p q x r w
  have KC := l13Context_c p2 q2 ctx w
  have KO := l12One_c b o c w c0 c1 c2
  have HD : adC x r ctx c = (if akC x r = 0 then (if ctxB ctx then (if okC c then 0 else 3) else 2) else akC x r) := rfl
  rw [HD]
  clear HD c0 c1 c2
  obtain ⟨k, HK⟩ : ∃ k, Hid (akC x r = k) := ⟨_, rfl⟩
  rw [HK.out] at KA ⊢
  clear HK
  by_cases h1 : k = 0
  · subst h1
    rw [if_pos rfl]
    cases h2 : ctxB ctx
    · rw [h2] at KC
      have KC : Hid _ := KC
      rw [if_neg (by decide)]
      clear KO
      go_enter Tryd.func22, Tryd.ntmps22
      go_wp2_with fail
      refine Calls.mono KA.out ?_
      rintro e w0 ⟨rfl, hw⟩
      subst hw
      go_wp2_with fail
      refine Calls.mono KC.out ?_
      rintro e w1 ⟨rfl, hw⟩
      subst hw
      go_wp2
      go_ret
      exact ⟨rfl, rfl⟩
    · rw [h2] at KC
      have KC : Hid _ := KC
      rw [if_pos rfl]
      cases h3 : okC c
      · rw [h3] at KO
        have KO : Hid _ := KO
        rw [if_neg (by decide)]
        go_enter Tryd.func22, Tryd.ntmps22
        go_wp2_with fail
        refine Calls.mono KA.out ?_
        rintro e w0 ⟨rfl, hw⟩
        subst hw
        go_wp2_with fail
        refine Calls.mono KC.out ?_
        rintro e w1 ⟨rfl, hw⟩
        subst hw
        go_wp2_with fail
        refine Calls.mono KO.out ?_
        rintro e w2 ⟨rfl, hw⟩
        subst hw
        go_wp2
        go_ret
        exact ⟨rfl, rfl⟩
      · rw [h3] at KO
        have KO : Hid _ := KO
        rw [if_pos rfl]
        go_enter Tryd.func22, Tryd.ntmps22
        go_wp2_with fail
        refine Calls.mono KA.out ?_
        rintro e w0 ⟨rfl, hw⟩
        subst hw
        go_wp2_with fail
        refine Calls.mono KC.out ?_
        rintro e w1 ⟨rfl, hw⟩
        subst hw
        go_wp2_with fail
        refine Calls.mono KO.out ?_
        rintro e w2 ⟨rfl, hw⟩
        subst hw
        go_wp2
        go_ret
        exact ⟨rfl, rfl⟩
  · rw [if_neg h1]
    clear KC KO
    go_enter Tryd.func22, Tryd.ntmps22
    go_wp2_with fail
    refine Calls.mono KA.out ?_
    rintro e w0 ⟨rfl, hw⟩
    subst hw
    go_wp2
    go_ret
    exact ⟨rfl, rfl⟩
set_option maxRecDepth 4000 in
set_option maxHeartbeats 1000000 in
theorem specAk_c (p : Option Addr) (q : Nat) (x : List UInt8) (r : Int) (fin : Bool) (w : World) (hr : Rd w p q x) :
    Calls Tryd.prog 5 #[.slice p x.length q, .int .i64 r, .bool fin] w fun e w' => ∃ u, e = .returned (.agg #[.int .i64 (akD x r fin).1, u]) ∧ Own w' w.heap.size u (akD x r fin).2 ∧ Below w.heap.size w w' := by
  have BW := alloc_below w (.cells #[.int .i64 0, .slice none 0 0] 24)
  have R := Arr.new w [.int .i64 0, .slice none 0 0] 24
  have KA := l13Asked_c p q x r (w.alloc (.cells #[.int .i64 0, .slice none 0 0] 24))
  have KA : Hid _ := KA
  by_cases h0 : akC x r = 0
  · rw [show akD x r fin = (0, kyN x r fin) by rw [akD, if_pos h0]]
    have hx : x.length = 32 := akC_len h0
    have KK : Hid (Calls Tryd.prog 17 #[.slice p x.length q, .int .i64 r, .bool fin] (w.alloc (.cells #[.int .i64 0, .slice none 0 0] 24)) fun e w' => ∃ u, e = .returned u ∧ Own w' (w.alloc (.cells #[.int .i64 0, .slice none 0 0] 24)).heap.size u (kyN x r fin) ∧ Below (w.alloc (.cells #[.int .i64 0, .slice none 0 0] 24)).heap.size (w.alloc (.cells #[.int .i64 0, .slice none 0 0] 24)) w') := l13Key_c p q x r fin _ (hr.keep BW) (by omega)
    obtain ⟨pw, HP⟩ : ∃ pw, Hid (kyN x r fin = pw) := ⟨_, rfl⟩
    rw [HP.out] at KK ⊢
    rw [h0] at KA
    clear HP hx h0 hr
    go_enter Tryd.func5, Tryd.ntmps5
    go_wp2_with fail
    refine Calls.mono KA.out ?_
    rintro e w2 ⟨rfl, hw⟩
    subst hw
    go_wp2_with fail
    refine Calls.mono KK.out ?_
    rintro e w3 ⟨u3, rfl, k3, hb3⟩
    have BW3 := Below.step BW hb3
    have R3 := R.stay hb3
    have hlt : Hid (w.heap.size < (w.alloc (.cells #[.int .i64 0, .slice none 0 0] 24)).heap.size) := R.lt
    obtain ⟨p3, q3, rfl, -⟩ := k3.rd
    have c0 := R3.cell 0
    have c1 := R3.cell 1
    have fz := R3.frozen
    simp at c0 c1
    clear R KK KA hb3 R3
    go_wp2
    refine bodyPost_ret (v := .agg #[.int .i64 0, .slice p3 pw.length q3]) (by simp [results, Tryd.results5, go_sem, c0, c1]) rfl ⟨_, rfl, ?_, (BW3.setCell (Nat.le_refl _) _).setCell (Nat.le_refl _) _⟩
    exact ((k3.set (a := ⟨w.heap.size, 0, none⟩) hlt.out _).set (a := ⟨w.heap.size, 1, none⟩) hlt.out _).lower (B' := w.heap.size) (by have := hlt.out; omega)
  · rw [show akD x r fin = (akC x r, []) by rw [akD, if_neg h0]]
    obtain ⟨k, HK⟩ : ∃ k, Hid (akC x r = k) := ⟨_, rfl⟩
    rw [HK.out] at KA h0 ⊢
    clear HK hr R BW
    go_enter Tryd.func5, Tryd.ntmps5
    go_wp2_with fail
    refine Calls.mono KA.out ?_
    rintro e w2 ⟨rfl, hw⟩
    subst hw
    go_wp2
    exact bodyPost_ret (v := .agg #[.int .i64 k, .slice none 0 0]) (by simp [results, Tryd.results5, go_sem]) rfl ⟨_, rfl, Own_nil _ _, alloc_below _ _⟩
set_option maxRecDepth 4000 in
set_option maxHeartbeats 1000000 in
theorem specAd_c (p p2 : Option Addr) (q q2 : Nat) (x ctx : List UInt8) (r : Int) (c : CertD) (w : World) (hr : Rd w p q x) (hr2 : Rd w p2 q2 ctx) :
    Calls Tryd.prog 13 #[.slice p x.length q, .int .i64 r, .slice p2 ctx.length q2, .agg #[.int .i64 c.1, .int .i64 c.2.1, .int .i64 c.2.2]] w fun e w' => ∃ u, e = .returned (.agg #[.int .i64 (adD x r ctx c).1, u]) ∧ Own w' w.heap.size u (adD x r ctx c).2 ∧ Below w.heap.size w w' := by
  have BW := Below.mk (alloc_below w (.cells #[.int .i64 c.1, .int .i64 c.2.1, .int .i64 c.2.2] 35)) (.cells #[.int .i64 0, .slice none 0 0] 24)
  have A := (Arr.new w [.int .i64 c.1, .int .i64 c.2.1, .int .i64 c.2.2] 35).old _ (.cells #[.int .i64 0, .slice none 0 0] 24)
  have R := Arr.new (w.alloc (.cells #[.int .i64 c.1, .int .i64 c.2.1, .int .i64 c.2.2] 35)) [.int .i64 0, .slice none 0 0] 24
  rw [size_alloc] at R
  have KA : Hid _ := l13Fault_c p p2 q q2 w.heap.size 0 x ctx r c ((w.alloc (.cells #[.int .i64 c.1, .int .i64 c.2.1, .int .i64 c.2.2] 35)).alloc (.cells #[.int .i64 0, .slice none 0 0] 24)) (A.cell 0) (A.cell 1) (A.cell 2)
  by_cases h0 : adC x r ctx c = 0
  · rw [show adD x r ctx c = (0, dgN x r ctx c) by rw [adD, if_pos h0]]
    obtain ⟨hk, hct, hoc⟩ := adC_ok h0
    have hx := akC_len hk
    have hcl := (ctxB_parts hct).2
    have KK : Hid (Calls Tryd.prog 23 #[.slice p x.length q, .int .i64 r, .slice p2 ctx.length q2, .pointer (some ⟨w.heap.size, 0, none⟩)] ((w.alloc (.cells #[.int .i64 c.1, .int .i64 c.2.1, .int .i64 c.2.2] 35)).alloc (.cells #[.int .i64 0, .slice none 0 0] 24)) fun e w' => ∃ u, e = .returned u ∧ Own w' ((w.alloc (.cells #[.int .i64 c.1, .int .i64 c.2.1, .int .i64 c.2.2] 35)).alloc (.cells #[.int .i64 0, .slice none 0 0] 24)).heap.size u (dgN x r ctx c) ∧ Below ((w.alloc (.cells #[.int .i64 c.1, .int .i64 c.2.1, .int .i64 c.2.2] 35)).alloc (.cells #[.int .i64 0, .slice none 0 0] 24)).heap.size ((w.alloc (.cells #[.int .i64 c.1, .int .i64 c.2.1, .int .i64 c.2.2] 35)).alloc (.cells #[.int .i64 0, .slice none 0 0] 24)) w') := l13Digest_c p p2 q q2 w.heap.size 0 x ctx r c _ (hr.keep BW) (hr2.keep BW) (A.cell 0) (A.cell 1) (A.cell 2) (by omega) hcl hoc
    obtain ⟨pw, HP⟩ : ∃ pw, Hid (dgN x r ctx c = pw) := ⟨_, rfl⟩
    rw [HP.out] at KK ⊢
    rw [h0] at KA
    clear HP hk hct hoc hx hcl h0 hr hr2 A
    go_enter Tryd.func13, Tryd.ntmps13
    go_wp2_with fail
    refine Calls.mono KA.out ?_
    rintro e w2 ⟨rfl, hw⟩
    subst hw
    go_wp2_with fail
    refine Calls.mono KK.out ?_
    rintro e w3 ⟨u3, rfl, k3, hb3⟩
    have BW3 := Below.step BW hb3
    have R3 := R.stay hb3
    have hlt : Hid (w.heap.size + 1 < ((w.alloc (.cells #[.int .i64 c.1, .int .i64 c.2.1, .int .i64 c.2.2] 35)).alloc (.cells #[.int .i64 0, .slice none 0 0] 24)).heap.size) := R.lt
    obtain ⟨p3, q3, rfl, -⟩ := k3.rd
    have c0 := R3.cell 0
    have c1 := R3.cell 1
    have fz := R3.frozen
    simp at c0 c1
    clear R KK KA hb3 R3
    go_wp2
    refine bodyPost_ret (v := .agg #[.int .i64 0, .slice p3 pw.length q3]) (by simp [results, Tryd.results13, go_sem, c0, c1]) rfl ⟨_, rfl, ?_, (BW3.setCell (by show w.heap.size ≤ w.heap.size + 1; omega) _).setCell (by show w.heap.size ≤ w.heap.size + 1; omega) _⟩
    exact ((k3.set (a := ⟨w.heap.size + 1, 0, none⟩) hlt.out _).set (a := ⟨w.heap.size + 1, 1, none⟩) hlt.out _).lower (B' := w.heap.size) (by have := hlt.out; omega)
  · rw [show adD x r ctx c = (adC x r ctx c, []) by rw [adD, if_neg h0]]
    obtain ⟨k, HK⟩ : ∃ k, Hid (adC x r ctx c = k) := ⟨_, rfl⟩
    rw [HK.out] at KA h0 ⊢
    clear HK hr hr2 A R BW
    go_enter Tryd.func13, Tryd.ntmps13
    go_wp2_with fail
    refine Calls.mono KA.out ?_
    rintro e w2 ⟨rfl, hw⟩
    subst hw
    go_wp2
    exact bodyPost_ret (v := .agg #[.int .i64 k, .slice none 0 0]) (by simp [results, Tryd.results13, go_sem]) rfl ⟨_, rfl, Own_nil _ _, Below.mk (alloc_below _ _) _⟩
end Go.Proofs.YtdbpnibcblelbaaDoor

