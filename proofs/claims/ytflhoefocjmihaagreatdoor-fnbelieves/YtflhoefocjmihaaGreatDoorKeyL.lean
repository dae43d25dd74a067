/- The contracts of labels in the program: impl.isLength, impl.isLabel, impl.LabelBytes: code and bytes. What was there stays. -/
import Derived.Test.YtflhoefocjmihaaGreatDoorJoint12
import Derived.Test.YtflhoefocjmihaaGreatDoorJoint14
namespace Go.Proofs.YtflhoefocjmihaaGreatDoor
open Go.ChangeShapes Go.WideShapes Go.ChangeAt Go.RowKit

theorem put2 (m : Nat) (h : m ≤ 255) : putB m 2 = [0, UInt8.ofNat m] := by
  show [UInt8.ofNat (m / 256 ^ 1 % 256), UInt8.ofNat (m / 256 ^ 0 % 256)] = _
  rw [show m / 256 ^ 1 % 256 = 0 by omega, show m / 256 ^ 0 % 256 = m by simp; omega]
  rfl
theorem joinedLab_c (W : World) (f ctx : List UInt8) (m : Nat) (hm : m ≤ 255) (hf : f.length ≤ 46) (hc : ctx.length ≤ 100) (p2 : Option Addr) (q2 : Nat) (hr : Rd W p2 q2 ctx) :
    Calls Tryz.prog 70 #[.slice (some ⟨(bytesW W f).heap.size + 1 + 1, 0, none⟩) 4 4]
      ((((bytesW W f).alloc (.cells #[.int .u8 0, .int .u8 (m : Int), .int .u8 ((f.length : Int) % 256)] 5)).alloc (.cells #[.int .u8 (ctx.length : Int)] 5)).alloc (.cells #[.slice (some ⟨(bytesW W f).heap.size, 0, none⟩) 3 3, .slice (some ⟨W.heap.size, 0, none⟩) f.length (bytesC W f), .slice (some ⟨(bytesW W f).heap.size + 1, 0, none⟩) 1 1, .slice p2 ctx.length q2] 22))
      fun e w' => ∃ u, e = .returned u ∧ Own w' W.heap.size u (putB m 2 ++ [UInt8.ofNat f.length] ++ f ++ [UInt8.ofNat ctx.length] ++ ctx) ∧ Below W.heap.size W w' := by
  have hbW := bytesW_below W f
  have r2 := bytesW_rd W f (by unfold maxLen; omega)
  have r4 := hr.keep hbW
  generalize bytesC W f = c2 at *
  generalize bytesW W f = W1 at *
  have r1 := rd_new W1 [.int .u8 0, .int .u8 (m : Int), .int .u8 ((f.length : Int) % 256)] [0, UInt8.ofNat m, UInt8.ofNat f.length] 5 3 (by
    simp only [List.map_cons, List.map_nil]
    rw [u8_of m (by omega), u8_of f.length (by omega), show ((f.length : Int) % 256) = f.length by omega]
    rfl) rfl (by decide)
  have b1 := alloc_below W1 (.cells #[.int .u8 0, .int .u8 (m : Int), .int .u8 ((f.length : Int) % 256)] 5)
  have z1 := size_alloc W1 (.cells #[.int .u8 0, .int .u8 (m : Int), .int .u8 ((f.length : Int) % 256)] 5)
  replace r2 := r2.keep b1
  replace r4 := r4.keep b1
  have r1' : Rd (W1.alloc (.cells #[.int .u8 0, .int .u8 (m : Int), .int .u8 ((f.length : Int) % 256)] 5)) (some ⟨W1.heap.size, 0, none⟩) 3 [0, UInt8.ofNat m, UInt8.ofNat f.length] := r1
  replace hbW := Below.step hbW b1
  clear r1 b1
  generalize W1.alloc (.cells #[.int .u8 0, .int .u8 (m : Int), .int .u8 ((f.length : Int) % 256)] 5) = W2 at *
  have r3 := rd_new W2 [.int .u8 (ctx.length : Int)] [UInt8.ofNat ctx.length] 5 1 (by
    simp only [List.map_cons, List.map_nil]
    rw [u8_of ctx.length (by omega)]) rfl (by decide)
  have b2 := alloc_below W2 (.cells #[.int .u8 (ctx.length : Int)] 5)
  have z2 := size_alloc W2 (.cells #[.int .u8 (ctx.length : Int)] 5)
  replace r1' := r1'.keep b2
  replace r2 := r2.keep b2
  replace r4 := r4.keep b2
  have r3' : Rd (W2.alloc (.cells #[.int .u8 (ctx.length : Int)] 5)) (some ⟨W2.heap.size, 0, none⟩) 1 [UInt8.ofNat ctx.length] := r3
  replace hbW := Below.step hbW b2
  clear r3 b2
  generalize W2.alloc (.cells #[.int .u8 (ctx.length : Int)] 5) = W3 at *
  rw [← z1, ← z2]
  have h := joined_c [⟨some ⟨W1.heap.size, 0, none⟩, 3, [0, UInt8.ofNat m, UInt8.ofNat f.length]⟩, ⟨some ⟨W.heap.size, 0, none⟩, c2, f⟩, ⟨some ⟨W2.heap.size, 0, none⟩, 1, [UInt8.ofNat ctx.length]⟩, ⟨p2, q2, ctx⟩] W3.heap.size 0 4 _
    (pcs_four W3 ⟨some ⟨W1.heap.size, 0, none⟩, 3, [0, UInt8.ofNat m, UInt8.ofNat f.length]⟩ ⟨some ⟨W.heap.size, 0, none⟩, c2, f⟩ ⟨some ⟨W2.heap.size, 0, none⟩, 1, [UInt8.ofNat ctx.length]⟩ ⟨p2, q2, ctx⟩ 22 r1' r2 r3' r4)
    (by simp [flat]; omega) (by simp)
  have hz := hbW.size
  refine h.mono ?_
  rintro e w1 ⟨u, rfl, k, hb⟩
  refine ⟨u, rfl, ?_, Below.step hbW (Below.res hb)⟩
  rw [put2 m hm]
  have hk := k.lower (B' := W.heap.size) (by rw [size_alloc]; omega)
  simpa [flat] using hk

set_option maxHeartbeats 1000000 in
theorem isLength_c (n : Int) (w : World) : Calls Tryz.prog 157 #[.int .i64 n] w fun e w' => e = .returned (.bool (inB n 0 255)) ∧ w' = w := by
  by_cases h0 : 0 ≤ n
  · by_cases h1 : n ≤ 255
    · rw [inB_true h0 h1]
      go_enter Tryz.func157, Tryz.ntmps157
      go_wp2
      go_ret
      exact ⟨rfl, rfl⟩
    · rw [inB_false (by omega)]
      go_enter Tryz.func157, Tryz.ntmps157
      go_wp2
      go_ret
      exact ⟨rfl, rfl⟩
  · rw [inB_false (by omega)]
    go_enter Tryz.func157, Tryz.ntmps157
    go_wp2
    go_ret
    exact ⟨rfl, rfl⟩

set_option maxHeartbeats 1000000 in
theorem isLabel_c (l : List UInt8) (w : World) (hl : l.length ≤ 1048576) :
    Calls Tryz.prog 156 #[.string (strB l)] w fun e w' => e = .returned (.bool (labelOk l)) ∧ w' = w := by
  have hss := strB_size l
  by_cases hlen : inB (l.length : Int) 1 40 = true
  · have hlo : (1 : Int) ≤ l.length := by simp [inB] at hlen; omega
    have hhi : (l.length : Int) ≤ 40 := by simp [inB] at hlen; omega
    have HLB : Hid (inB (l.length : Int) 1 40 = true) := hlen
    clear hlen
    go_enter Tryz.func156, Tryz.ntmps156
    have hd1 : decide ((l.length : Int) < 1) = false := by simp; omega
    have hd2 : decide ((40 : Int) < (l.length : Int)) = false := by simp; omega
    go_wp2
    clear hd1 hd2
    go_loop [3] (fun i => ∃ j : Nat, j ≤ l.length ∧ i = .int .i64 j ∧ (l.take j).all charOk = true)
      (fun i => l.length - (intOf i).toNat)
    case atStart => exact ⟨0, Nat.zero_le _, rfl, by simp⟩
    case round =>
      obtain ⟨j, hj, rfl, hall⟩ := hrel
      by_cases hjl : j < l.length
      · have hat := strB_at l j
        have h0 := at8_lo l j
        have h1 := at8_hi l j
        have hlt : (j : Int) < (l.length : Int) := by omega
        have HC : Hid (charOk l[j] = (decide (32 ≤ at8 l j) && decide (at8 l j ≤ 126))) := charOk_at hjl
        have HS : Hid ((l.take (j + 1)).all charOk = ((l.take j).all charOk && charOk l[j])) := all_take_succ hjl
        have HF : Hid (charOk l[j] = false → labelOk l = false) := fun h => by rw [labelOk_eq, all_of_take hjl h]; rfl
        generalize at8 l j = x at *
        have HA : Hid ((l.take j).all charOk = true) := hall
        clear hall
        by_cases hx : x < 32
        · have hlab : Hid (labelOk l = false) := HF.out (by rw [HC.out]; simp; omega)
          go_wp2
          go_ret
          exact ⟨by rw [hlab.out]; rfl, rfl⟩
        · by_cases hx2 : 126 < x
          · have hlab : Hid (labelOk l = false) := HF.out (by rw [HC.out]; simp; omega)
            go_wp2
            go_ret
            exact ⟨by rw [hlab.out]; rfl, rfl⟩
          · have hnx : Hid ((l.take (j + 1)).all charOk = true) := by show _ = _; rw [HS.out, HA.out, HC.out]; simp; omega
            go_wp2
            go_round
            case rel => exact ⟨j + 1, by omega, by go_num, hnx.out⟩
            case measure => simp [intOf]; omega
      · have e : j = l.length := by omega
        subst e
        rw [List.take_length] at hall
        have HF : Hid (labelOk l = true) := by show _ = _; rw [labelOk_eq, hall, HLB.out]; rfl
        clear hall
        go_wp2
        go_ret
        exact ⟨by rw [HF.out]; rfl, rfl⟩
  · have HF : Hid (labelOk l = false) := by show _ = _; rw [labelOk_eq]; simp at hlen; rw [hlen]; simp
    rw [HF.out]
    have hlen2 : ¬ ((1 : Int) ≤ l.length ∧ (l.length : Int) ≤ 40) := by simpa [inB] using hlen
    clear hlen
    by_cases h1 : (l.length : Int) < 1
    · go_enter Tryz.func156, Tryz.ntmps156
      go_wp2
      go_ret
      exact ⟨rfl, rfl⟩
    · have h2 : (40 : Int) < l.length := by omega
      clear hlen2
      go_enter Tryz.func156, Tryz.ntmps156
      go_wp2
      go_ret
      exact ⟨rfl, rfl⟩

set_option maxRecDepth 4000 in
set_option maxHeartbeats 1000000 in
theorem labelFault_c (p2 : Option Addr) (q2 : Nat) (l ctx : List UInt8) (n : Int) (w : World) (hl : l.length ≤ 1048576) :
    Calls Tryz.prog 128 #[.string (strB l), .slice p2 ctx.length q2, .int .i64 n] w fun e w' => e = .returned (.int .i64 (labelC l ctx n)) ∧ w' = w := by
  cases h1 : labelOk l
  · rw [show labelC l ctx n = 5 by simp [labelC, h1]]
    go_enter Tryz.func128, Tryz.ntmps128
    go_wp2_with fail
    refine (isLabel_c l _ hl).mono ?_
    rintro e w' ⟨rfl, hw⟩
    subst hw
    rw [h1]
    go_wp2
    go_ret
    exact ⟨rfl, rfl⟩
  · by_cases h2 : ctx.length ≤ 100
    · cases h3 : inB n 0 255
      · rw [show labelC l ctx n = 3 by simp [labelC, h1, h2, h3]]
        go_enter Tryz.func128, Tryz.ntmps128
        go_wp2_with fail
        refine (isLabel_c l _ hl).mono ?_
        rintro e w' ⟨rfl, hw⟩
        subst hw
        rw [h1]
        go_wp2_with fail
        refine (isLength_c n _).mono ?_
        rintro e w' ⟨rfl, hw⟩
        subst hw
        rw [h3]
        go_wp2
        go_ret
        exact ⟨rfl, rfl⟩
      · rw [show labelC l ctx n = 0 by simp [labelC, h1, h2, h3]]
        go_enter Tryz.func128, Tryz.ntmps128
        go_wp2_with fail
        refine (isLabel_c l _ hl).mono ?_
        rintro e w' ⟨rfl, hw⟩
        subst hw
        rw [h1]
        go_wp2_with fail
        refine (isLength_c n _).mono ?_
        rintro e w' ⟨rfl, hw⟩
        subst hw
        rw [h3]
        go_wp2
        go_ret
        exact ⟨rfl, rfl⟩
    · rw [show labelC l ctx n = 2 by simp [labelC, h1, h2]]
      go_enter Tryz.func128, Tryz.ntmps128
      go_wp2_with fail
      refine (isLabel_c l _ hl).mono ?_
      rintro e w' ⟨rfl, hw⟩
      subst hw
      rw [h1]
      go_wp2
      go_ret
      exact ⟨rfl, rfl⟩
set_option maxRecDepth 4000 in
set_option maxHeartbeats 1000000 in
theorem implLab_s (p2 : Option Addr) (q2 : Nat) (l ctx : List UInt8) (n : Int) (w : World) (hr2 : Rd w p2 q2 ctx) (hl : l.length ≤ 1048576) :
    Calls Tryz.prog 178 #[.string (strB l), .slice p2 ctx.length q2, .int .i64 n] w fun e w' => ∃ u, e = .returned (.agg #[.int .i64 (labelC l ctx n), u]) ∧ Own w' w.heap.size u (labL l ctx n) ∧ Below w.heap.size w w' ∧ (labelC l ctx n ≠ 0 → u = .slice none 0 0) := by
  by_cases hc : labelC l ctx n = 0
  · obtain ⟨h1, h2, h3⟩ := labelC_zero hc
    have h40 := labelOk_len h1
    obtain ⟨m, rfl, hm⟩ := nat255 h3
    have K0 : Hid (∀ w, Calls Tryz.prog 128 #[.string (strB l), .slice p2 ctx.length q2, .int .i64 (m : Int)] w fun e w' => e = .returned (.int .i64 0) ∧ w' = w) := fun w => by
      have g := labelFault_c p2 q2 l ctx (m : Int) w hl
      rw [hc] at g
      exact g
    rw [show labL l ctx (m : Int) = labelB l ctx m by simp [labL, hc], hc]
    have ha := run_add (P := Tryz.prog) tls13 l (by simp [tls13]; omega)
    rw [← tls13_str] at ha
    have hlf : Hid ((tls13 ++ l).length = 6 + l.length) := by show _ = _; simp [tls13]; omega
    have hfs : (strB (tls13 ++ l)).size = 6 + l.length := by rw [strB_size, hlf.out]
    have hb := run_bytes (P := Tryz.prog) (src := 9) (dst := 22) Tryz.underlying9 Tryz.underlying22 Tryz.underlying5 (tls13 ++ l)
    have HE : Hid (labelB l ctx m = putB m 2 ++ [UInt8.ofNat (6 + l.length)] ++ (tls13 ++ l) ++ [UInt8.ofNat ctx.length] ++ ctx) := labelB_eq l ctx m
    generalize tls13 ++ l = f at *
    have HR : Hid (Rd w p2 q2 ctx) := hr2
    clear hr2 hc
    go_enter Tryz.func178, Tryz.ntmps178
    go_wp2_with fail
    refine (K0.out _).mono ?_
    rintro e w' ⟨rfl, hw⟩
    subst hw
    go_wp2_with fail
    have K := joinedLab_c (w.alloc (.cells #[.int .i64 0, .slice none 0 0] 45)) f ctx m hm (by rw [hlf.out]; omega) h2 p2 q2 (HR.out.keep (alloc_below _ _))
    rw [size_alloc] at K
    refine K.mono ?_
    rintro e w1 ⟨u, rfl, ho, hbb⟩
    have hbb' : Below (w.alloc (.cells #[.int .i64 0, .slice none 0 0] 45)).heap.size (w.alloc (.cells #[.int .i64 0, .slice none 0 0] 45)) w1 := by rw [size_alloc]; exact hbb
    obtain ⟨hd, hf⟩ := bcell hbb
    rw [hlf.out, ← HE.out] at ho
    obtain ⟨a, cap, rfl, -⟩ := ho.rd
    have hres := Below.res hbb'
    clear hbb hbb' K ha hb
    go_wp2
    refine bodyPost_ret (v := .agg #[.int .i64 0, .slice a (labelB l ctx m).length cap]) (by simp [results, Tryz.results178, go_sem, hd]) rfl ⟨_, rfl, ?_, (hres.setCell (Nat.le_refl _) _).setCell (Nat.le_refl _) _, fun h => absurd rfl h⟩
    exact ((ho.set (Nat.lt_succ_self _) _).set (Nat.lt_succ_self _) _).lower (Nat.le_succ _)
  · rw [show labL l ctx n = [] by simp [labL, hc]]
    have K0 : Hid (∀ w, Calls Tryz.prog 128 #[.string (strB l), .slice p2 ctx.length q2, .int .i64 n] w fun e w' => e = .returned (.int .i64 (labelC l ctx n)) ∧ w' = w) := fun w => labelFault_c p2 q2 l ctx n w hl
    generalize labelC l ctx n = c at *
    have cz1 : (c != 0) = true := by rw [bne_iff_ne]; exact hc
    clear hc
    go_enter Tryz.func178, Tryz.ntmps178
    go_wp2_with fail
    refine (K0.out _).mono ?_
    rintro e w' ⟨rfl, hw⟩
    subst hw
    go_wp2
    exact bodyPost_ret (v := .agg #[.int .i64 c, .slice none 0 0]) (by simp [results, Tryz.results178, go_sem]) rfl ⟨_, rfl, Own_nil _ _, (alloc_below _ _), fun _ => rfl⟩
theorem implLab_c (p2 : Option Addr) (q2 : Nat) (l ctx : List UInt8) (n : Int) (w : World) (hr2 : Rd w p2 q2 ctx) (hl : l.length ≤ 1048576) :
    Calls Tryz.prog 178 #[.string (strB l), .slice p2 ctx.length q2, .int .i64 n] w fun e w' => ∃ u, e = .returned (.agg #[.int .i64 (labelC l ctx n), u]) ∧ Own w' w.heap.size u (labL l ctx n) ∧ Below w.heap.size w w' :=
  (implLab_s p2 q2 l ctx n w hr2 hl).mono fun _ _ ⟨u, h1, h2, h3, _⟩ => ⟨u, h1, h2, h3⟩
end Go.Proofs.YtflhoefocjmihaaGreatDoor

