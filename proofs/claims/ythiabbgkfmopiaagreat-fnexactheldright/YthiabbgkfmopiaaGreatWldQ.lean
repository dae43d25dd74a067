/- Chapter 15, the specification's side: l15Session and what its events leave to a session, as a list (written by tools/wld_q.py). What was there stays. -/
import Derived.Test.YthiabbgkfmopiaaGreatWldF
import Derived.Test.YthiabbgkfmopiaaGreatJoint20
import Derived.Test.YthiabbgkfmopiaaGreatSesP
namespace Go.Proofs.YthiabbgkfmopiaaGreat
open Go.ChangeShapes Go.WideShapes Go.ChangeAt Go.RowKit

set_option maxRecDepth 4000 in
theorem l15Session1_c (b o : Nat) (p1 p3 p4 p5 : Option Addr) (n1 q1 n3 q3 n4 q4 n5 q5 : Nat) (i2 : Int) (w : World) (d0 : w.cell? ⟨b, o + 2, none⟩ = some (.slice p1 n1 q1)) (d1 : w.cell? ⟨b, o + 3, none⟩ = some (.int .i64 i2)) (d2 : w.cell? ⟨b, o + 4, none⟩ = some (.slice p3 n3 q3)) (d3 : w.cell? ⟨b, o + 5, none⟩ = some (.slice p4 n4 q4)) (d4 : w.cell? ⟨b, o + 6, none⟩ = some (.slice p5 n5 q5)) :
    Calls Tryz.prog 17 #[.pointer (some ⟨b, o, none⟩), .int .i64 1] w fun e w' => e = .returned (.agg #[.slice p1 n1 q1, .int .i64 i2, .slice p3 n3 q3, .slice p4 n4 q4, .slice p5 n5 q5]) ∧ Below w.heap.size w w' := by
  have hb : b < w.heap.size := World.block_lt_of_cell? w _ d0
  have R := Arr.new w [.slice none 0 0, .int .i64 0, .slice none 0 0, .slice none 0 0, .slice none 0 0] 53
  have BW := alloc_below w (.cells #[.slice none 0 0, .int .i64 0, .slice none 0 0, .slice none 0 0, .slice none 0 0] 53)
  have hres : Hid ((Tryz.prog.info? 53).map (·.size) = some 5) := by show _ = _; kernel_rfl
  replace d0 := cell_keep d0 BW
  replace d1 := cell_keep d1 BW
  replace d2 := cell_keep d2 BW
  replace d3 := cell_keep d3 BW
  replace d4 := cell_keep d4 BW
  go_enter Tryz.func17, Tryz.ntmps17
  go_wp2_with (refine wpList_store_row rfl 53 _ _ rfl w.heap.size #[.slice p1 n1 q1, .int .i64 i2, .slice p3 n3 q3, .slice p4 n4 q4, .slice p5 n5 q5] rfl rfl 53 #[.slice none 0 0, .int .i64 0, .slice none 0 0, .slice none 0 0, .slice none 0 0] R hres.out rfl (by simp [Value.oneCell']) ?_)
  exact bodyPost_ret (v := .agg #[.slice p1 n1 q1, .int .i64 i2, .slice p3 n3 q3, .slice p4 n4 q4, .slice p5 n5 q5]) (results_cell_row Tryz.results17 _ _ w.heap.size 53 _ (0, 0) _ rfl (R.row [.slice p1 n1 q1, .int .i64 i2, .slice p3 n3 q3, .slice p4 n4 q4, .slice p5 n5 q5]) Tryz.underlying53 rfl hres.out) rfl ⟨rfl, Below.row BW (Nat.le_refl _) _⟩
set_option maxRecDepth 4000 in
theorem l15Session2_c (b o : Nat) (p1 p3 p4 p5 : Option Addr) (n1 q1 n3 q3 n4 q4 n5 q5 : Nat) (i2 : Int) (w : World) (d0 : w.cell? ⟨b, o + 7, none⟩ = some (.slice p1 n1 q1)) (d1 : w.cell? ⟨b, o + 8, none⟩ = some (.int .i64 i2)) (d2 : w.cell? ⟨b, o + 9, none⟩ = some (.slice p3 n3 q3)) (d3 : w.cell? ⟨b, o + 10, none⟩ = some (.slice p4 n4 q4)) (d4 : w.cell? ⟨b, o + 11, none⟩ = some (.slice p5 n5 q5)) :
    Calls Tryz.prog 17 #[.pointer (some ⟨b, o, none⟩), .int .i64 2] w fun e w' => e = .returned (.agg #[.slice p1 n1 q1, .int .i64 i2, .slice p3 n3 q3, .slice p4 n4 q4, .slice p5 n5 q5]) ∧ Below w.heap.size w w' := by
  have hb : b < w.heap.size := World.block_lt_of_cell? w _ d0
  have R := Arr.new w [.slice none 0 0, .int .i64 0, .slice none 0 0, .slice none 0 0, .slice none 0 0] 53
  have BW := alloc_below w (.cells #[.slice none 0 0, .int .i64 0, .slice none 0 0, .slice none 0 0, .slice none 0 0] 53)
  have hres : Hid ((Tryz.prog.info? 53).map (·.size) = some 5) := by show _ = _; kernel_rfl
  replace d0 := cell_keep d0 BW
  replace d1 := cell_keep d1 BW
  replace d2 := cell_keep d2 BW
  replace d3 := cell_keep d3 BW
  replace d4 := cell_keep d4 BW
  go_enter Tryz.func17, Tryz.ntmps17
  go_wp2_with (refine wpList_store_row rfl 53 _ _ rfl w.heap.size #[.slice p1 n1 q1, .int .i64 i2, .slice p3 n3 q3, .slice p4 n4 q4, .slice p5 n5 q5] rfl rfl 53 #[.slice none 0 0, .int .i64 0, .slice none 0 0, .slice none 0 0, .slice none 0 0] R hres.out rfl (by simp [Value.oneCell']) ?_)
  exact bodyPost_ret (v := .agg #[.slice p1 n1 q1, .int .i64 i2, .slice p3 n3 q3, .slice p4 n4 q4, .slice p5 n5 q5]) (results_cell_row Tryz.results17 _ _ w.heap.size 53 _ (0, 0) _ rfl (R.row [.slice p1 n1 q1, .int .i64 i2, .slice p3 n3 q3, .slice p4 n4 q4, .slice p5 n5 q5]) Tryz.underlying53 rfl hres.out) rfl ⟨rfl, Below.row BW (Nat.le_refl _) _⟩
theorem l12At_d (l : List CertD) (p : Option Addr) (q : Nat) (id : Int) (w : World) (hr : RdL certC w p q l) : Calls Tryz.prog 44 #[.slice p l.length q, .int .i64 id] w fun e w' => e = .returned (.int .i64 (ixC l id)) ∧ Below w.heap.size w w' := (l12At_c l p q id w hr).mono fun _ _ h => ⟨h.1, by rw [h.2]; exact Below.refl _ _⟩
theorem rdl_held {w : World} {B n q : Nat} {p : Option Addr} {l : List HeldD} (h : w.ownsRow B 59 2 (.slice p n q) l.length (cellsH l)) (hn : n = l.length) : RdL holdC w p q l := by
  subst hn
  exact RdL.own (⟨h, cellsH_all _, by rw [List.append_nil]; exact nodup_opt _⟩ : OwnL 59 holdC _ _ _ l (cellsH l) [])
theorem rowQ_stay {w w' : World} {B : Nat} {t : TypeId} {z n : Nat} {v : Value} {vs : List Value} (h : w.ownsRow B t z v n vs) (hb : Below w.heap.size w w') : w'.ownsRow B t z v n vs :=
  ownsRow_fr h fun k hk => hb.block k (World.ownsRow.lt h k hk).2
theorem go_take {l : List HeldD} {k : Nat} {h : HeldD} {id : Int} (ha : l[k]? = some h) : goN (l.take (k + 1)) id = if h.1 = id then goN (l.take k) id else goN (l.take k) id ++ [h] := by
  rw [List.take_add_one, ha]
  unfold goN
  rw [List.filter_append]
  by_cases e : h.1 = id
  · simp [e]
  · simp [e]
theorem now_take {l : List HeldD} {k : Nat} {h : HeldD} {now : Int} (ha : l[k]? = some h) : nowN (l.take (k + 1)) now = if now ≤ h.2 then nowN (l.take k) now ++ [h] else nowN (l.take k) now := by
  rw [List.take_add_one, ha]
  unfold nowN
  rw [List.filter_append]
  by_cases e : now ≤ h.2
  · simp [e]
  · simp [e]
theorem none_rowH (w : World) : (w.alloc (.cells #[] 59)).ownsRow w.heap.size 59 2 (.slice (some ⟨w.heap.size, 0, none⟩) 0 0) 0 [] := World.ownsRow_made (base := w.heap.size) (e := 59) (size := 2) w #[] 0 (Nat.le_refl _) (Nat.zero_le _) rfl
set_option maxRecDepth 4000 in
set_option maxHeartbeats 8000000 in
theorem l15Left_c (b o : Nat) (p2 p7 : Option Addr) (q2 q7 : Nat) (x : WorldD) (link role : Int) (w : World) (hA0 : w.cell? ⟨b, o, none⟩ = some (.int .i64 x.1)) (hA1 : w.cell? ⟨b, o + 1, none⟩ = some (.slice p2 x.2.1.length q2)) (hA6 : w.cell? ⟨b, o + 6, none⟩ = some (.slice p7 x.2.2.2.2.2.2.length q7)) (r2 : RdL certC w p2 q2 x.2.1) (r7 : RdL eventC w p7 q7 x.2.2.2.2.2.2) (hc : ctC x.2.1 = 0) (hl : x.2.2.2.2.2.2.length ≤ 1000) (hr : role = 1 ∨ role = 2) :
    Calls Tryz.prog 16 #[.pointer (some ⟨b, o, none⟩), .int .i64 link, .int .i64 role] w fun e w' => ∃ v, e = .returned v ∧ w'.ownsRow w.heap.size 59 2 v (lefN x link role).length (cellsH (lefN x link role)) ∧ Below w.heap.size w w' := by
  have HA0 : Hid (∀ W, Below w.heap.size w W → W.cell? ⟨b, o, none⟩ = some (.int .i64 x.1)) := fun W h => cell_keep hA0 h
  have HA1 : Hid (∀ W, Below w.heap.size w W → W.cell? ⟨b, o + 1, none⟩ = some (.slice p2 x.2.1.length q2)) := fun W h => cell_keep hA1 h
  have HA6 : Hid (∀ W, Below w.heap.size w W → W.cell? ⟨b, o + 6, none⟩ = some (.slice p7 x.2.2.2.2.2.2.length q7)) := fun W h => cell_keep hA6 h
  have R2 : Hid (RdL certC w p2 q2 x.2.1) := r2
  have R7 : Hid (RdL eventC w p7 q7 x.2.2.2.2.2.2) := r7
  have hq2 : x.2.1.length ≤ q2 := r2.1
  have hz2 : q2 ≤ 2 ^ 63 - 1 := r2.2.1
  have hq7 : x.2.2.2.2.2.2.length ≤ q7 := r7.1
  have hz7 : q7 ≤ 2 ^ 63 - 1 := r7.2.1
  have HC : Hid (ctC x.2.1 = 0) := hc
  have HL : Hid (x.2.2.2.2.2.2.length ≤ 1000) := hl
  have hw : wrap64 (3 - role) = 3 - role := by rcases hr with rfl | rfl <;> (unfold wrap64; omega)
  have HRS : Hid (∀ k, Rise (lefL x.2.1 link role (x.2.2.2.2.2.2.take k))) := fun k => (lef_same hc 0 link role _).rs
  have HLL : Hid (∀ k, k ≤ x.2.2.2.2.2.2.length → (lefL x.2.1 link role (x.2.2.2.2.2.2.take k)).length ≤ 1000) := fun k hk => Nat.le_trans (Nat.le_trans (lefL_len hc link role _ k hk) hk) hl
  clear hA0 hA1 hA6 r2 r7 hc hl hr
  have O1 := none_rowH w
  have B1 := alloc_below w (.cells #[] 59)
  go_enter Tryz.func16, Tryz.ntmps16
  go_wp2_with fail
  go_loopw [7, 8] (fun v i wr => ∃ k : Nat, k ≤ x.2.2.2.2.2.2.length ∧ i = .int .i64 k ∧ wr.ownsRow w.heap.size 59 2 v (lefL x.2.1 link role (x.2.2.2.2.2.2.take k)).length (cellsH (lefL x.2.1 link role (x.2.2.2.2.2.2.take k))) ∧ Below w.heap.size w wr)
    (fun _ i _ => x.2.2.2.2.2.2.length - (intOf i).toNat)
  case atStart => exact ⟨0, Nat.zero_le _, rfl, O1, B1⟩
  case round =>
    clear O1 B1
    obtain ⟨k, hk, rfl, hrow, BW⟩ := hrel
    obtain ⟨wq, hwq⟩ : ∃ z, z = wr := ⟨_, rfl⟩
    subst hwq
    obtain ⟨po, qo, rfl, -⟩ := ownsRow_raw hrow
    have c6 := HA6.out _ BW
    by_cases hlt : k < x.2.2.2.2.2.2.length
    · have hI : (k : Int) < (x.2.2.2.2.2.2.length : Int) := by omega
      obtain ⟨b7, o7, e1, hcc⟩ := (R7.out.keep BW).2.2.2 (by omega)
      obtain ⟨a, ha⟩ : ∃ a, x.2.2.2.2.2.2[k]? = some a := ⟨x.2.2.2.2.2.2[k], by simp [hlt]⟩
      obtain ⟨us, hrep, hcell⟩ := hcc k a ha
      obtain ⟨pc, qc, rfl, rc⟩ := event_rep hrep
      rw [show eventC.n = 6 from rfl] at hcell
      have d0 := hcell 0 _ rfl
      have d1 := hcell 1 _ rfl
      have d2 := hcell 2 _ rfl
      have d4 := hcell 4 _ rfl
      rw [Nat.add_zero] at d0
      have HD0 : Hid (∀ W, Below wq.heap.size wq W → W.cell? ⟨b7, o7 + k * 6, none⟩ = some (.int .i64 a.1)) := fun W h => cell_keep d0 h
      have HD4 : Hid (∀ W, Below wq.heap.size wq W → W.cell? ⟨b7, o7 + k * 6 + 4, none⟩ = some (.int .i64 a.2.2.2.2.1)) := fun W h => cell_keep d4 h
      rw [e1] at c6
      clear hcc hcell hrep rc e1 d4
      have HT0 : Hid (lefL x.2.1 link role (x.2.2.2.2.2.2.take (k + 1)) = lefE x.2.1 link role (lefL x.2.1 link role (x.2.2.2.2.2.2.take k)) a) := lefL_take _ _ _ ha
      clear ha
      by_cases h1 : a.2.1 = link
      case neg =>
        have i1 : (a.2.1 != link) = true := by rw [bne_iff_ne]; exact h1
        have HT : Hid (lefL x.2.1 link role (x.2.2.2.2.2.2.take (k + 1)) = lefL x.2.1 link role (x.2.2.2.2.2.2.take k)) := by show _ = _; rw [HT0.out, lefE, if_neg (fun h => h1 h.1)]
        clear h1 HT0
        go_wp2_with fail
        go_roundw
        case rel => exact ⟨k + 1, by omega, by go_num, by rw [HT.out]; exact hrow, BW⟩
        case measure => simp [intOf]; omega
      have i1 : (a.2.1 != link) = false := by rw [bne_eq_false_iff_eq]; exact h1
      by_cases h2 : a.2.2.1 = 3 - role
      case neg =>
        have i2 : (a.2.2.1 != 3 - role) = true := by rw [bne_iff_ne]; exact h2
        have HT : Hid (lefL x.2.1 link role (x.2.2.2.2.2.2.take (k + 1)) = lefL x.2.1 link role (x.2.2.2.2.2.2.take k)) := by show _ = _; rw [HT0.out, lefE, if_neg (fun h => h2 h.2)]
        clear h1 h2 HT0
        go_wp2_with fail
        go_roundw
        case rel => exact ⟨k + 1, by omega, by go_num, by rw [HT.out]; exact hrow, BW⟩
        case measure => simp [intOf]; omega
      have i2 : (a.2.2.1 != 3 - role) = false := by rw [bne_eq_false_iff_eq]; exact h2
      have HT1 : Hid (lefL x.2.1 link role (x.2.2.2.2.2.2.take (k + 1)) = (if a.1 = 2 then (if hasC x.2.1 a.2.2.2.2.1 = true then holdN (lefL x.2.1 link role (x.2.2.2.2.2.2.take k)) (a.2.2.2.2.1, (foC x.2.1 a.2.2.2.2.1).2.2) else lefL x.2.1 link role (x.2.2.2.2.2.2.take k)) else (if a.1 = 3 then goN (lefL x.2.1 link role (x.2.2.2.2.2.2.take k)) a.2.2.2.2.1 else lefL x.2.1 link role (x.2.2.2.2.2.2.take k)))) := by show _ = _; rw [HT0.out, lefE, if_pos ⟨h1, h2⟩]
      clear HT0 h1 h2
      by_cases h3 : a.1 = 1
      case pos =>
        have i3 : (a.1 == 1) = true := by rw [beq_iff_eq]; exact h3
        have HT : Hid (lefL x.2.1 link role (x.2.2.2.2.2.2.take (k + 1)) = lefL x.2.1 link role (x.2.2.2.2.2.2.take k)) := by show _ = _; rw [HT1.out, if_neg (by omega), if_neg (by omega)]
        clear h3 HT1
        go_wp2_with fail
        go_roundw
        case rel => exact ⟨k + 1, by omega, by go_num, by rw [HT.out]; exact hrow, BW⟩
        case measure => simp [intOf]; omega
      have i3 : (a.1 == 1) = false := by rw [beq_eq_false_iff_ne]; exact h3
      have c1 := HA1.out _ BW
      have d4 := HD4.out _ (Below.refl _ _)
      by_cases h4 : a.1 = 2
      · have i4 : (a.1 == 2) = true := by rw [beq_iff_eq]; exact h4
        have i5 : (a.1 == 3) = false := by rw [beq_eq_false_iff_ne]; omega
        have HT2 : Hid (lefL x.2.1 link role (x.2.2.2.2.2.2.take (k + 1)) = (if hasC x.2.1 a.2.2.2.2.1 = true then holdN (lefL x.2.1 link role (x.2.2.2.2.2.2.take k)) (a.2.2.2.2.1, (foC x.2.1 a.2.2.2.2.1).2.2) else lefL x.2.1 link role (x.2.2.2.2.2.2.take k))) := by show _ = _; rw [HT1.out, if_pos h4]
        clear HT1 h4 h3
        cases hh : hasC x.2.1 a.2.2.2.2.1 with
        | false =>
          have HT : Hid (lefL x.2.1 link role (x.2.2.2.2.2.2.take (k + 1)) = lefL x.2.1 link role (x.2.2.2.2.2.2.take k)) := by show _ = _; rw [HT2.out, hh]; rfl
          have KAT : Hid (∀ W, Below w.heap.size w W → Calls Tryz.prog 44 #[.slice p2 x.2.1.length q2, .int .i64 a.2.2.2.2.1] W fun e w' => e = .returned (.int .i64 (-1)) ∧ Below W.heap.size W w') := fun W hb => by have h := l12At_d x.2.1 p2 q2 a.2.2.2.2.1 W (R2.out.keep hb); rw [ixC_none hh] at h; exact h
          clear HT2 hh
          go_wp2_with fail
          apply share
          case h =>
            intro JN
            have BB := Below.refl wq.heap.size wq
            have hne := HW.some wq
            have g1 := HW.at (c1)
            have g4 := HW.at (d4)
            refine wp_region_pick [0, 1, 2, 3, 4, 5, 6, 7] 9 1 1 rfl rfl rfl (by kernel_rfl) (by kernel_rfl) (by kernel_rfl) (by kernel_rfl) ?_
            simp only [opsAt, List.getElem?_toArray, List.getElem?_cons_zero, List.getElem?_cons_succ]
            repeat (go_big_quiet_step (fail))
            refine wpQuiet_nil ?_
            clear g1 g4
            refine wpM_only (i := 8) (by kernel_rfl) ?_
            refine mOp_call rfl (by go_simp) 44 _ #[.slice p2 x.2.1.length q2, .int .i64 a.2.2.2.2.1] (fun w => by go_simp) rfl ?_
            rintro _ ⟨sg, rfl⟩
            refine (KAT.out _ (Below.step BW (Below.step BB sg.h))).mono ?_
            rintro e wg1 ⟨rfl, hbx⟩
            have hbg := Below.step sg.h hbx
            refine ⟨_, rfl, ⟨⟨wg1, hbx⟩, rfl⟩, ?_⟩
            replace BB := Below.step BB hbg
            clear hbg hbx sg
            replace hne := HW.some wg1
            refine wpM_end (by kernel_rfl) rfl (by kernel_rfl) (by decide) ?_
            rintro _ ⟨sz, rfl⟩
            simp only [List.drop_succ_cons, List.drop_zero]
            go_simp
            replace BB := Below.step BB sz.h
            clear hne
            generalize sz.w = W at *
            clear sz
            revert BB
            revert W
            exact JN.out
          intro W BB
          replace hrow := rowQ_stay hrow BB
          replace BW := Below.step BW BB
          have BQ := BB
          clear BB c1 d4 d0 d1 d2 c6
          have d0 := HD0.out _ BQ
          go_wp2_with fail
          go_roundw
          case rel => exact ⟨k + 1, by omega, by go_num, by rw [HT.out]; exact hrow, BW⟩
          case measure => simp [intOf]; omega
        | true =>
          obtain ⟨j, hj, hcj, -⟩ := ixC_some hh
          have HT : Hid (lefL x.2.1 link role (x.2.2.2.2.2.2.take (k + 1)) = holdN (lefL x.2.1 link role (x.2.2.2.2.2.2.take k)) (a.2.2.2.2.1, (foC x.2.1 a.2.2.2.2.1).2.2)) := by show _ = _; rw [HT2.out, if_pos hh]
          have KAT : Hid (∀ W, Below w.heap.size w W → Calls Tryz.prog 44 #[.slice p2 x.2.1.length q2, .int .i64 a.2.2.2.2.1] W fun e w' => e = .returned (.int .i64 (j : Int)) ∧ Below W.heap.size W w') := fun W hb => by have h := l12At_d x.2.1 p2 q2 a.2.2.2.2.1 W (R2.out.keep hb); rw [hj] at h; exact h
          have hjl : j < x.2.1.length := (List.getElem?_eq_some_iff.1 hcj).1
          have hjI : (j : Int) < (x.2.1.length : Int) := by omega
          have hj0 : (0 : Int) ≤ (j : Int) := by omega
          have HCJ : Hid (x.2.1[j]? = some (foC x.2.1 a.2.2.2.2.1)) := hcj
          clear HT2 hh hj hcj
          go_wp2_with fail
          apply share
          case h =>
            intro JN
            have BB := Below.refl wq.heap.size wq
            have hne := HW.some wq
            have g1 := HW.at (c1)
            have g4 := HW.at (d4)
            refine wp_region_pick [0, 1, 2, 3, 4, 5, 6, 7] 9 1 1 rfl rfl rfl (by kernel_rfl) (by kernel_rfl) (by kernel_rfl) (by kernel_rfl) ?_
            simp only [opsAt, List.getElem?_toArray, List.getElem?_cons_zero, List.getElem?_cons_succ]
            repeat (go_big_quiet_step (fail))
            refine wpQuiet_nil ?_
            clear g1 g4
            refine wpM_only (i := 8) (by kernel_rfl) ?_
            refine mOp_call rfl (by go_simp) 44 _ #[.slice p2 x.2.1.length q2, .int .i64 a.2.2.2.2.1] (fun w => by go_simp) rfl ?_
            rintro _ ⟨sg, rfl⟩
            refine (KAT.out _ (Below.step BW (Below.step BB sg.h))).mono ?_
            rintro e wg1 ⟨rfl, hbx⟩
            have hbg := Below.step sg.h hbx
            refine ⟨_, rfl, ⟨⟨wg1, hbx⟩, rfl⟩, ?_⟩
            replace BB := Below.step BB hbg
            clear hbg hbx sg
            replace hne := HW.some wg1
            refine wpM_end (by kernel_rfl) rfl (by kernel_rfl) (by decide) ?_
            rintro _ ⟨sz, rfl⟩
            simp only [List.drop_succ_cons, List.drop_zero]
            go_simp
            replace BB := Below.step BB sz.h
            clear hne
            generalize sz.w = W at *
            clear sz
            revert BB
            revert W
            exact JN.out
          intro W BB
          replace hrow := rowQ_stay hrow BB
          replace BW := Below.step BW BB
          have BQ := BB
          clear BB c1 d4 d0 d1 d2 c6
          have d0 := HD0.out _ BQ
          have c1 := HA1.out _ BW
          have d4 := HD4.out _ BQ
          obtain ⟨bc, oc, ec, hcc⟩ := (R2.out.keep BW).2.2.2 (by omega)
          obtain ⟨us2, hrep2, hcell2⟩ := hcc j _ HCJ.out
          obtain rfl := cert_rep hrep2
          have m2 := hcell2 2 _ rfl
          rw [show certC.n = 3 from rfl] at m2
          rw [ec] at c1
          have ROUT := rdl_held hrow rfl
          clear hcc hrep2 hcell2 HCJ ec KAT
          go_wp2_with fail
          clear d0
          apply share
          case h =>
            intro JN
            have BB := Below.refl W.heap.size W
            have hne := HW.some W
            have g1 := HW.at (c1)
            have g4 := HW.at (d4)
            have gc := HW.at (m2)
            refine wp_region_pick [0, 1, 2, 3, 4, 5, 6, 7, 8, 9, 10, 11, 12] 15 2 1 rfl rfl rfl (by kernel_rfl) (by kernel_rfl) (by kernel_rfl) (by kernel_rfl) ?_
            simp only [opsAt, List.getElem?_toArray, List.getElem?_cons_zero, List.getElem?_cons_succ]
            repeat (go_big_quiet_step (fail))
            refine wpQuiet_nil ?_
            clear g1 g4 gc
            refine wpM_only (i := 13) (by kernel_rfl) ?_
            refine mOp_make rfl (by go_simp) ?_
            rintro _ ⟨sg, rfl⟩
            refine ⟨.agg #[.int .i64 a.2.2.2.2.1, .int .i64 (foC x.2.1 a.2.2.2.2.1).2.2], sg.w, by go_simp, ⟨⟨_, Below.refl _ _⟩, rfl⟩, ?_⟩
            have hbg : Below _ _ sg.w := sg.h
            replace BB := Below.step BB hbg
            clear hbg
            replace hne := HW.some sg.w
            generalize sg.w = wg1 at *
            clear sg
            refine wpM_only (i := 14) (by kernel_rfl) ?_
            refine mOp_call rfl (by go_simp) 45 _ #[.slice po (lefL x.2.1 link role (x.2.2.2.2.2.2.take k)).length qo, .agg #[.int .i64 a.2.2.2.2.1, .int .i64 (foC x.2.1 a.2.2.2.2.1).2.2]] (fun w => by go_simp) rfl ?_
            rintro _ ⟨sg, rfl⟩
            refine (l14Hold_c (lefL x.2.1 link role (x.2.2.2.2.2.2.take k)) (a.2.2.2.2.1, (foC x.2.1 a.2.2.2.2.1).2.2) po qo _ (ROUT.keep (Below.step BB sg.h)) (HRS.out k) (HLL.out k hk)).mono ?_
            rintro e wg2 ⟨v, rfl, hro, hbx⟩
            have hbg := Below.step sg.h hbx
            refine ⟨_, rfl, ⟨⟨wg2, hbx⟩, rfl⟩, ?_⟩
            have HRW := (ownsRow_low hro ((Below.step BB sg.h)).size)
            replace BB := Below.step BB hbg
            clear hbg hbx sg hro
            replace hne := HW.some wg2
            refine wpM_end (by kernel_rfl) rfl (by kernel_rfl) (by decide) ?_
            rintro _ ⟨sz, rfl⟩
            simp only [List.drop_succ_cons, List.drop_zero]
            go_simp
            replace HRW := rowQ_stay HRW sz.h
            replace BB := Below.step BB sz.h
            clear hne
            generalize sz.w = W2 at *
            clear sz
            revert HRW
            revert BB
            revert v
            revert W2
            exact JN.out
          intro W2 v BB HRW
          have hrow2 := ownsRow_low HRW BW.size
          replace BW := Below.step BW BB
          replace BQ := Below.step BQ BB
          clear BB c1 d4 m2 HRW hrow ROUT
          have d0 := HD0.out _ BQ
          go_wp2_with fail
          go_roundw
          case rel => exact ⟨k + 1, by omega, by go_num, by rw [HT.out]; exact hrow2, BW⟩
          case measure => simp [intOf]; omega
      · have i4 : (a.1 == 2) = false := by rw [beq_eq_false_iff_ne]; exact h4
        have KAT : Hid (∀ W, Below w.heap.size w W → Calls Tryz.prog 44 #[.slice p2 x.2.1.length q2, .int .i64 a.2.2.2.2.1] W fun e w' => e = .returned (.int .i64 (ixC x.2.1 a.2.2.2.2.1)) ∧ Below W.heap.size W w') := fun W hb => l12At_d x.2.1 p2 q2 a.2.2.2.2.1 W (R2.out.keep hb)
        by_cases h5 : a.1 = 3
        case neg =>
          have i5 : (a.1 == 3) = false := by rw [beq_eq_false_iff_ne]; exact h5
          have HT : Hid (lefL x.2.1 link role (x.2.2.2.2.2.2.take (k + 1)) = lefL x.2.1 link role (x.2.2.2.2.2.2.take k)) := by show _ = _; rw [HT1.out, if_neg h4, if_neg h5]
          clear HT1 h3 h4 h5
          go_wp2_with fail
          apply share
          case h =>
            intro JN
            have BB := Below.refl wq.heap.size wq
            have hne := HW.some wq
            have g1 := HW.at (c1)
            have g4 := HW.at (d4)
            refine wp_region_pick [0, 1, 2, 3, 4, 5, 6, 7] 9 1 1 rfl rfl rfl (by kernel_rfl) (by kernel_rfl) (by kernel_rfl) (by kernel_rfl) ?_
            simp only [opsAt, List.getElem?_toArray, List.getElem?_cons_zero, List.getElem?_cons_succ]
            repeat (go_big_quiet_step (fail))
            refine wpQuiet_nil ?_
            clear g1 g4
            refine wpM_only (i := 8) (by kernel_rfl) ?_
            refine mOp_call rfl (by go_simp) 44 _ #[.slice p2 x.2.1.length q2, .int .i64 a.2.2.2.2.1] (fun w => by go_simp) rfl ?_
            rintro _ ⟨sg, rfl⟩
            refine (KAT.out _ (Below.step BW (Below.step BB sg.h))).mono ?_
            rintro e wg1 ⟨rfl, hbx⟩
            have hbg := Below.step sg.h hbx
            refine ⟨_, rfl, ⟨⟨wg1, hbx⟩, rfl⟩, ?_⟩
            replace BB := Below.step BB hbg
            clear hbg hbx sg
            replace hne := HW.some wg1
            refine wpM_end (by kernel_rfl) rfl (by kernel_rfl) (by decide) ?_
            rintro _ ⟨sz, rfl⟩
            simp only [List.drop_succ_cons, List.drop_zero]
            go_simp
            replace BB := Below.step BB sz.h
            clear hne
            generalize sz.w = W at *
            clear sz
            revert BB
            revert W
            exact JN.out
          intro W BB
          replace hrow := rowQ_stay hrow BB
          replace BW := Below.step BW BB
          have BQ := BB
          clear BB c1 d4 d0 d1 d2 c6
          clear KAT
          have d0 := HD0.out _ BQ
          go_wp2_with fail
          go_roundw
          case rel => exact ⟨k + 1, by omega, by go_num, by rw [HT.out]; exact hrow, BW⟩
          case measure => simp [intOf]; omega
        have i5 : (a.1 == 3) = true := by rw [beq_iff_eq]; exact h5
        have HT : Hid (lefL x.2.1 link role (x.2.2.2.2.2.2.take (k + 1)) = goN (lefL x.2.1 link role (x.2.2.2.2.2.2.take k)) a.2.2.2.2.1) := by show _ = _; rw [HT1.out, if_neg h4, if_pos h5]
        clear HT1 h3 h4 h5
        go_wp2_with fail
        apply share
        case h =>
          intro JN
          have BB := Below.refl wq.heap.size wq
          have hne := HW.some wq
          have g1 := HW.at (c1)
          have g4 := HW.at (d4)
          refine wp_region_pick [0, 1, 2, 3, 4, 5, 6, 7] 9 1 1 rfl rfl rfl (by kernel_rfl) (by kernel_rfl) (by kernel_rfl) (by kernel_rfl) ?_
          simp only [opsAt, List.getElem?_toArray, List.getElem?_cons_zero, List.getElem?_cons_succ]
          repeat (go_big_quiet_step (fail))
          refine wpQuiet_nil ?_
          clear g1 g4
          refine wpM_only (i := 8) (by kernel_rfl) ?_
          refine mOp_call rfl (by go_simp) 44 _ #[.slice p2 x.2.1.length q2, .int .i64 a.2.2.2.2.1] (fun w => by go_simp) rfl ?_
          rintro _ ⟨sg, rfl⟩
          refine (KAT.out _ (Below.step BW (Below.step BB sg.h))).mono ?_
          rintro e wg1 ⟨rfl, hbx⟩
          have hbg := Below.step sg.h hbx
          refine ⟨_, rfl, ⟨⟨wg1, hbx⟩, rfl⟩, ?_⟩
          replace BB := Below.step BB hbg
          clear hbg hbx sg
          replace hne := HW.some wg1
          refine wpM_end (by kernel_rfl) rfl (by kernel_rfl) (by decide) ?_
          rintro _ ⟨sz, rfl⟩
          simp only [List.drop_succ_cons, List.drop_zero]
          go_simp
          replace BB := Below.step BB sz.h
          clear hne
          generalize sz.w = W at *
          clear sz
          revert BB
          revert W
          exact JN.out
        intro W BB
        replace hrow := rowQ_stay hrow BB
        replace BW := Below.step BW BB
        have BQ := BB
        clear BB c1 d4 d0 d1 d2 c6
        clear KAT
        have d0 := HD0.out _ BQ
        have ROUT : Hid (RdL holdC W po qo (lefL x.2.1 link role (x.2.2.2.2.2.2.take k))) := rdl_held hrow rfl
        have HQ4 : Hid (∀ V, Below W.heap.size W V → V.cell? ⟨b7, o7 + k * 6 + 4, none⟩ = some (.int .i64 a.2.2.2.2.1)) := fun V h => HD4.out V (Below.step BQ h)
        have HLQ : Hid ((lefL x.2.1 link role (x.2.2.2.2.2.2.take k)).length ≤ 1000) := HLL.out k hk
        have hlq : (lefL x.2.1 link role (x.2.2.2.2.2.2.take k)).length ≤ qo := ROUT.out.1
        have hzq : qo ≤ 2 ^ 63 - 1 := ROUT.out.2.1
        obtain ⟨L, hL⟩ : ∃ L, lefL x.2.1 link role (x.2.2.2.2.2.2.take k) = L := ⟨_, rfl⟩
        obtain ⟨V0, hV0⟩ : ∃ V0, V0 = W := ⟨_, rfl⟩
        subst hV0
        rw [hL] at hrow ROUT HLQ hlq HT ⊢
        clear hL
        go_wp2_with fail
        clear d0
        have O2 := none_rowH V0
        have B2 := alloc_below V0 (.cells #[] 59)
        go_loopw [11, 12] (fun v2 i wr => ∃ j : Nat, j ≤ (L).length ∧ i = .int .i64 j ∧ wr.ownsRow V0.heap.size 59 2 v2 (goN ((L).take j) a.2.2.2.2.1).length (cellsH (goN ((L).take j) a.2.2.2.2.1)) ∧ Below V0.heap.size V0 wr)
          (fun _ i _ => (L).length - (intOf i).toNat)
        case atStart => exact ⟨0, Nat.zero_le _, rfl, O2, B2⟩
        case round =>
          clear O2 B2
          obtain ⟨j, hj, rfl, hrow2, BB⟩ := hrel
          obtain ⟨wq, hwq⟩ : ∃ z, z = wr := ⟨_, rfl⟩
          subst hwq
          by_cases hlt2 : j < (L).length
          · have hI2 : (j : Int) < (((L).length : Nat) : Int) := by omega
            obtain ⟨bo, oo, eo, hco⟩ := (ROUT.out.keep BB).2.2.2 (by omega)
            subst eo
            obtain ⟨h, hh0⟩ : ∃ h, (L)[j]? = some h := ⟨(L)[j], by simp [hlt2]⟩
            obtain ⟨us, hrep, hcell⟩ := hco j h hh0
            obtain rfl := hold_rep hrep
            have m0 := hcell 0 _ rfl
            have m1 := hcell 1 _ rfl
            rw [show holdC.n = 2 from rfl] at m0 m1
            rw [Nat.add_zero] at m0
            have d4 := HQ4.out _ BB
            have HTK : Hid (_ = _) := go_take (id := a.2.2.2.2.1) hh0
            have HLO : Hid ((goN ((L).take j) a.2.2.2.2.1).length ≤ 10000) := by
              show _ ≤ _
              have h1 : (goN ((L).take j) a.2.2.2.2.1).length ≤ ((L).take j).length := List.length_filter_le _ _
              have h2 := HLQ.out
              rw [List.length_take] at h1
              omega
            clear hco hrep hcell hh0
            by_cases hk2 : h.1 = a.2.2.2.2.1
            · have i6 : (h.1 != a.2.2.2.2.1) = false := by rw [bne_eq_false_iff_eq]; exact hk2
              have HT3 : Hid (goN ((L).take (j + 1)) a.2.2.2.2.1 = goN ((L).take j) a.2.2.2.2.1) := by show _ = _; rw [HTK.out, if_pos hk2]
              clear HTK hk2
              go_wp2_with fail
              go_quiet (fail)
              have hbq : Below wq.heap.size wq (wq.drewN nq) := ⟨rfl, rfl, rfl, Nat.le_refl _, fun _ _ => rfl⟩
              replace hrow2 := rowQ_stay hrow2 hbq
              replace m0 := cell_keep m0 hbq
              replace m1 := cell_keep m1 hbq
              replace d4 := cell_keep d4 hbq
              replace BB := Below.step BB hbq
              clear hbq
              generalize wq.drewN nq = wv at *
              clear wq
              obtain ⟨wq, hwq⟩ : ∃ z, z = wv := ⟨_, rfl⟩
              subst hwq
              clear m0 m1 d4
              go_wp2_with fail
              go_roundw
              case rel => exact ⟨j + 1, by omega, by go_num, by rw [HT3.out]; exact hrow2, BB⟩
              case measure => simp [intOf]; omega
            · have i6 : (h.1 != a.2.2.2.2.1) = true := by rw [bne_iff_ne]; exact hk2
              have HT3 : Hid (goN ((L).take (j + 1)) a.2.2.2.2.1 = goN ((L).take j) a.2.2.2.2.1 ++ [h]) := by show _ = _; rw [HTK.out, if_neg hk2]
              clear HTK hk2
              go_wp2_with fail
              go_quiet (fail)
              have hbq : Below wq.heap.size wq (wq.drewN nq) := ⟨rfl, rfl, rfl, Nat.le_refl _, fun _ _ => rfl⟩
              replace hrow2 := rowQ_stay hrow2 hbq
              replace m0 := cell_keep m0 hbq
              replace m1 := cell_keep m1 hbq
              replace d4 := cell_keep d4 hbq
              replace BB := Below.step BB hbq
              clear hbq
              generalize wq.drewN nq = wv at *
              clear wq
              obtain ⟨wq, hwq⟩ : ∃ z, z = wv := ⟨_, rfl⟩
              subst hwq
              have hsz := BB.size
              go_wp2_with (at_builtin; refine wpList_append_held (out := (goN ((L).take j) a.2.2.2.2.1)) (h := h) rfl (.tmp 108) (.tmp 113) rfl hrow2 rfl rfl hsz HLO.out ?_; intro p6 q6 w6 hrow6 hg6 hb6)
              have B6 := (Below.step BB (alloc_below wq (.cells #[.int .i64 h.1, .int .i64 h.2] 59))).trans hb6
              clear m0 m1 d4 hg6 hb6 hrow2 BB hsz
              go_roundw
              case rel => exact ⟨j + 1, by omega, by go_num, by rw [HT3.out]; simp only [List.length_append, List.length_singleton]; exact hrow6, B6⟩
              case measure => simp [intOf]; omega
          · have hI2 : ¬ ((j : Int) < (((L).length : Nat) : Int)) := by omega
            have ej : j = (L).length := by omega
            subst ej
            rw [List.take_length] at hrow2
            go_wp2_with fail
            have hrow3 := ownsRow_low hrow2 BW.size
            replace BW := Below.step BW BB
            clear hrow2 BB
            go_roundw
            case rel => exact ⟨k + 1, by omega, by go_num, by rw [HT.out]; exact hrow3, BW⟩
            case measure => simp [intOf]; omega
    · have hI : ¬ ((k : Int) < (x.2.2.2.2.2.2.length : Int)) := by omega
      have ek : k = x.2.2.2.2.2.2.length := by omega
      subst ek
      have ROUT : Hid (RdL holdC wq po qo (lefL x.2.1 link role (x.2.2.2.2.2.2.take x.2.2.2.2.2.2.length))) := rdl_held hrow rfl
      have HQ0 : Hid (∀ V, Below wq.heap.size wq V → V.cell? ⟨b, o, none⟩ = some (.int .i64 x.1)) := fun V h => HA0.out V (Below.step BW h)
      have HLQ : Hid ((lefL x.2.1 link role (x.2.2.2.2.2.2.take x.2.2.2.2.2.2.length)).length ≤ 1000) := HLL.out _ (Nat.le_refl _)
      have hlq : (lefL x.2.1 link role (x.2.2.2.2.2.2.take x.2.2.2.2.2.2.length)).length ≤ qo := ROUT.out.1
      have hzq : qo ≤ 2 ^ 63 - 1 := ROUT.out.2.1
      have HLN : Hid (lefN x link role = nowN (lefL x.2.1 link role (x.2.2.2.2.2.2.take x.2.2.2.2.2.2.length)) x.1) := by show _ = _; rw [List.take_length]; rfl
      obtain ⟨L, hL⟩ : ∃ L, lefL x.2.1 link role (x.2.2.2.2.2.2.take x.2.2.2.2.2.2.length) = L := ⟨_, rfl⟩
      obtain ⟨V0, hV0⟩ : ∃ V0, V0 = wq := ⟨_, rfl⟩
      subst hV0
      rw [hL] at hrow ROUT HLQ hlq HLN ⊢
      clear hL HC HRS HLL hw
      go_wp2_with fail
      clear c6
      have O2 := none_rowH V0
      have B2 := alloc_below V0 (.cells #[] 59)
      go_loopw [13, 14] (fun v2 i wr => ∃ j : Nat, j ≤ (L).length ∧ i = .int .i64 j ∧ wr.ownsRow V0.heap.size 59 2 v2 (nowN ((L).take j) x.1).length (cellsH (nowN ((L).take j) x.1)) ∧ Below V0.heap.size V0 wr)
        (fun _ i _ => (L).length - (intOf i).toNat)
      case atStart => exact ⟨0, Nat.zero_le _, rfl, O2, B2⟩
      case round =>
        clear O2 B2
        obtain ⟨j, hj, rfl, hrow2, BB⟩ := hrel
        obtain ⟨wq, hwq⟩ : ∃ z, z = wr := ⟨_, rfl⟩
        subst hwq
        by_cases hlt2 : j < (L).length
        · have hI2 : (j : Int) < (((L).length : Nat) : Int) := by omega
          obtain ⟨bo, oo, eo, hco⟩ := (ROUT.out.keep BB).2.2.2 (by omega)
          subst eo
          obtain ⟨h, hh0⟩ : ∃ h, (L)[j]? = some h := ⟨(L)[j], by simp [hlt2]⟩
          obtain ⟨us, hrep, hcell⟩ := hco j h hh0
          obtain rfl := hold_rep hrep
          have m0 := hcell 0 _ rfl
          have m1 := hcell 1 _ rfl
          rw [show holdC.n = 2 from rfl] at m0 m1
          rw [Nat.add_zero] at m0
          have d0 := HQ0.out _ BB
          have HTK : Hid (_ = _) := now_take (now := x.1) hh0
          have HLO : Hid ((nowN ((L).take j) x.1).length ≤ 10000) := by
            show _ ≤ _
            have h1 : (nowN ((L).take j) x.1).length ≤ ((L).take j).length := List.length_filter_le _ _
            have h2 := HLQ.out
            rw [List.length_take] at h1
            omega
          clear hco hrep hcell hh0
          by_cases hk2 : h.2 < x.1
          · have i6 : ¬ (x.1 ≤ h.2) := by omega
            have HT3 : Hid (nowN ((L).take (j + 1)) x.1 = nowN ((L).take j) x.1) := by show _ = _; rw [HTK.out, if_neg (by omega)]
            clear HTK hk2
            go_wp2_with fail
            go_quiet (fail)
            have hbq : Below wq.heap.size wq (wq.drewN nq) := ⟨rfl, rfl, rfl, Nat.le_refl _, fun _ _ => rfl⟩
            replace hrow2 := rowQ_stay hrow2 hbq
            replace m0 := cell_keep m0 hbq
            replace m1 := cell_keep m1 hbq
            replace d0 := cell_keep d0 hbq
            replace BB := Below.step BB hbq
            clear hbq
            generalize wq.drewN nq = wv at *
            clear wq
            obtain ⟨wq, hwq⟩ : ∃ z, z = wv := ⟨_, rfl⟩
            subst hwq
            clear m0 m1 d0
            go_wp2_with fail
            go_roundw
            case rel => exact ⟨j + 1, by omega, by go_num, by rw [HT3.out]; exact hrow2, BB⟩
            case measure => simp [intOf]; omega
          · have i6 : x.1 ≤ h.2 := by omega
            have HT3 : Hid (nowN ((L).take (j + 1)) x.1 = nowN ((L).take j) x.1 ++ [h]) := by show _ = _; rw [HTK.out, if_pos (by omega)]
            clear HTK hk2
            go_wp2_with fail
            go_quiet (fail)
            have hbq : Below wq.heap.size wq (wq.drewN nq) := ⟨rfl, rfl, rfl, Nat.le_refl _, fun _ _ => rfl⟩
            replace hrow2 := rowQ_stay hrow2 hbq
            replace m0 := cell_keep m0 hbq
            replace m1 := cell_keep m1 hbq
            replace d0 := cell_keep d0 hbq
            replace BB := Below.step BB hbq
            clear hbq
            generalize wq.drewN nq = wv at *
            clear wq
            obtain ⟨wq, hwq⟩ : ∃ z, z = wv := ⟨_, rfl⟩
            subst hwq
            have hsz := BB.size
            go_wp2_with (at_builtin; refine wpList_append_held (out := (nowN ((L).take j) x.1)) (h := h) rfl (.tmp 133) (.tmp 138) rfl hrow2 rfl rfl hsz HLO.out ?_; intro p6 q6 w6 hrow6 hg6 hb6)
            have B6 := (Below.step BB (alloc_below wq (.cells #[.int .i64 h.1, .int .i64 h.2] 59))).trans hb6
            clear m0 m1 d0 hg6 hb6 hrow2 BB hsz
            go_roundw
            case rel => exact ⟨j + 1, by omega, by go_num, by rw [HT3.out]; simp only [List.length_append, List.length_singleton]; exact hrow6, B6⟩
            case measure => simp [intOf]; omega
        · have hI2 : ¬ ((j : Int) < (((L).length : Nat) : Int)) := by omega
          have ej : j = (L).length := by omega
          subst ej
          rw [List.take_length] at hrow2
          have hrow3 := ownsRow_low hrow2 BW.size
          replace BW := Below.step BW BB
          rw [← HLN.out] at hrow3
          clear hrow2 BB
          go_wp2_with fail
          go_ret
          first | exact ⟨_, rfl, hrow3, BW⟩ | exact ⟨hrow3, BW⟩
end Go.Proofs.YthiabbgkfmopiaaGreat

