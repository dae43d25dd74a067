/- UpdateStream of the program, at every argument, where the two tables hold what the program's text lays (Tabs). What was there stays. -/
import Derived.Test.YtdemfbbjdnjolaaDoorJoint15
import Derived.Test.YtdemfbbjdnjolaaDoorRecF
import Derived.Test.YtdemfbbjdnjolaaDoorRecSe
import Derived.Test.YtdemfbbjdnjolaaDoorRecHe
import Derived.Test.YtdemfbbjdnjolaaDoorCopy
namespace Go.Proofs.YtdemfbbjdnjolaaDoor
open Go.ChangeShapes Go.WideShapes Go.ChangeAt Go.RowKit

theorem grown_setU (W : World) (b o : Nat) (v : Value) : W.grownBy (W.setCell ⟨b, o, none⟩ v) (some b) :=
  ⟨rfl, rfl, rfl, by rw [World.size_setCell]; exact Nat.le_refl _, fun k _ hk => Below.heap_setCell _ _ _ k (fun e => hk (by rw [e]))⟩
set_option maxRecDepth 4000 in
set_option maxHeartbeats 1000000 in
theorem renew_c (x : StreamD) (p : Option Addr) (q b : Nat) (w : World) (A : Arr w b 25 [.slice p x.1.length q, .int .i64 x.2.1, .int .i64 x.2.2]) (hr : Rd w p q x.1) (h1 : x.1.length = 32) (h0 : 0 ≤ x.2.2) (h2 : x.2.2 < 99) (hT : Tabs w) :
    Calls Tryd.prog 38 #[.pointer (some ⟨b, 0, none⟩)] w fun e w' => ∃ u, (∃ v, e = .returned v) ∧ Own w' w.heap.size u (expLabN x.1 updLab [] 32) ∧ Arr w' b 25 [u, .int .i64 0, .int .i64 (x.2.2 + 1)] ∧ w.grownBy w' (some b) := by
  have HL : Hid (x.1.length = 32) := h1
  have KU : Hid (Calls Tryd.prog 43 #[.slice p x.1.length q, .string ⟨#[116, 114, 97, 102, 102, 105, 99, 32, 117, 112, 100]⟩, .slice none 0 0, .int .i64 32] w fun e w' => ∃ u, e = .returned (.agg #[.int .i64 0, u]) ∧ Own w' w.heap.size u (expLabN x.1 updLab [] 32) ∧ Below w.heap.size w w') := expR_c updLab 32 (by decide) (by decide) p q x.1 w hr HL.out hT
  have f1 := bytes_f1 0
  have c0 := (A.cell 0).trans (show _ = some _ from rfl)
  have HAb : Hid (b < w.heap.size) := A.lt
  clear hr hT h1
  go_enter Tryd.func38, Tryd.ntmps38
  go_wp2_with fail
  refine KU.out.mono ?_
  rintro e w1 ⟨u, rfl, k1, hb1⟩
  obtain ⟨a1, cc1, rfl, -⟩ := k1.rd
  rw [expLabN_len] at *
  replace A := A.stay hb1
  have d0 := (A.cell 0).trans (show _ = some _ from rfl)
  have d1 := (A.cell 1).trans (show _ = some _ from rfl)
  have d2 := (A.cell 2).trans (show _ = some _ from rfl)
  have fz := A.frozen
  have A3 := ((A.set 0 (.slice a1 32 cc1)).set 1 (.int .i64 0)).set 2 (.int .i64 (x.2.2 + 1))
  have k3 := ((k1.set (a := ⟨b, 0, none⟩) HAb.out (.slice a1 32 cc1)).set (a := ⟨b, 1, none⟩) HAb.out (.int .i64 0)).set (a := ⟨b, 2, none⟩) HAb.out (.int .i64 (x.2.2 + 1))
  have G3 := grownBy_trans (below_grown hb1 (some b)) (grownBy_trans (grown_setU w1 b 0 (.slice a1 32 cc1)) (grownBy_trans (grown_setU _ b 1 (.int .i64 0)) (grown_setU _ b 2 (.int .i64 (x.2.2 + 1)))))
  clear c0 hb1
  go_wp2_with fail
  exact bodyPost_end (v := .tuple #[]) (by simp [results, Tryd.results38, go_sem]) rfl ⟨_, ⟨_, rfl⟩, k3, A3, G3⟩
set_option maxRecDepth 4000 in
set_option maxHeartbeats 2000000 in
theorem implUs_k (x : StreamD) (us : List Value) (w : World) (h : streamC.rep w x us) (hT : Tabs w) :
    Calls Tryd.prog 11 #[.agg us.toArray] w fun e w' => ∃ us fp, e = .returned (.agg us.toArray) ∧ recordResultC.own w' w.heap.size (usD x) us fp ∧ Below w.heap.size w w' := by
  obtain ⟨p, q, rfl, r⟩ := stream_rep h
  have BW := Below.mk (alloc_below w (.cells #[.slice p x.1.length q, .int .i64 x.2.1, .int .i64 x.2.2] 25)) (.cells #[.int .i64 0, .int .i64 0, .slice none 0 0, .slice none 0 0, .int .i64 0, .int .i64 0] 29)
  have A := (Arr.new w [.slice p x.1.length q, .int .i64 x.2.1, .int .i64 x.2.2] 25).old _ (.cells #[.int .i64 0, .int .i64 0, .slice none 0 0, .slice none 0 0, .int .i64 0, .int .i64 0] 29)
  have R := Arr.new (w.alloc (.cells #[.slice p x.1.length q, .int .i64 x.2.1, .int .i64 x.2.2] 25)) [.int .i64 0, .int .i64 0, .slice none 0 0, .slice none 0 0, .int .i64 0, .int .i64 0] 29
  rw [size_alloc] at R
  have HR : Hid (Rd w p q x.1) := r
  have HT : Hid (Tabs w) := hT
  have KF : Hid (∀ w, Calls Tryd.prog 37 #[.agg #[.slice p x.1.length q, .int .i64 x.2.1, .int .i64 x.2.2]] w fun e w' => e = .returned (.int .i64 (stC x)) ∧ Below w.heap.size w w') := fun w => streamFault_c x p q w
  clear h r hT
  by_cases hs : stC x = 0
  · rw [hs] at KF
    obtain ⟨hx32, -, -, he0, he1⟩ := st_parts hs
    by_cases hl : x.2.2 = 99
    · have HE : Hid (usD x = badR 10) := by show _ = _; unfold usD usC; rw [if_pos hs, if_pos (show 99 ≤ x.2.2 by omega), if_neg (by decide)]
      have d99 : (x.2.2 == 99) = true := by rw [beq_iff_eq]; exact hl
      clear hs hx32 hl
      go_enter Tryd.func11, Tryd.ntmps11
      go_wp2_with fail
      refine (KF.out _).mono ?_
      rintro e w1 ⟨rfl, hb1⟩
      replace A := A.stay hb1
      have a2 := (A.cell 2).trans (show _ = some _ from rfl)
      replace BW := Below.step BW hb1
      replace R := R.stay hb1
      have c0 := (R.cell 0).trans (show _ = some _ from rfl)
      have c1 := (R.cell 1).trans (show _ = some _ from rfl)
      have c2 := (R.cell 2).trans (show _ = some _ from rfl)
      have c3 := (R.cell 3).trans (show _ = some _ from rfl)
      have c4 := (R.cell 4).trans (show _ = some _ from rfl)
      have c5 := (R.cell 5).trans (show _ = some _ from rfl)
      have fz := R.frozen
      clear hb1 R A
      go_wp2_with fail
      exact bodyPost_ret (v := .agg #[.int .i64 10, .int .i64 0, .slice none 0 0, .slice none 0 0, .int .i64 0, .int .i64 0]) (by simp [results, Tryd.results11, go_sem, c0, c1, c2, c3, c4, c5]) rfl ⟨[.int .i64 10, .int .i64 0, .slice none 0 0, .slice none 0 0, .int .i64 0, .int .i64 0], [], rfl, by rw [HE.out]; exact badR_own _ _ _, ((((((BW.setCell (Nat.le_succ _) _).setCell (Nat.le_succ _) _).setCell (Nat.le_succ _) _).setCell (Nat.le_succ _) _).setCell (Nat.le_succ _) _).setCell (Nat.le_succ _) _)⟩
    · have HE : Hid (usD x = (0, 0, [], (expLabN x.1 updLab [] 32, 0, x.2.2 + 1))) := by show _ = _; unfold usD usC; rw [if_pos hs, if_neg (show ¬ 99 ≤ x.2.2 by omega), if_pos rfl]
      have d99 : (x.2.2 == 99) = false := by rw [beq_eq_false_iff_ne]; exact hl
      have HX : Hid (x.1.length = 32) := hx32
      have he2 : x.2.2 < 99 := by omega
      clear hs hx32 hl
      go_enter Tryd.func11, Tryd.ntmps11
      go_wp2_with fail
      refine (KF.out _).mono ?_
      rintro e w1 ⟨rfl, hb1⟩
      replace A := A.stay hb1
      replace R := R.stay hb1
      replace BW := Below.step BW hb1
      have a0 := (A.cell 0).trans (show _ = some _ from rfl)
      have a1 := (A.cell 1).trans (show _ = some _ from rfl)
      have a2 := (A.cell 2).trans (show _ = some _ from rfl)
      clear hb1
      go_wp2_with fail
      refine (ownStream_c x p q _ (HR.out.keep BW) (by have := HX.out; omega)).mono ?_
      rintro e w2 ⟨u2, b, rfl, k2, N, hbg, hub, hb2⟩
      obtain ⟨p2, cc2, rfl, -⟩ := k2.rd
      have hz1 : Hid (w.heap.size + 2 ≤ w1.heap.size) := R.lt
      replace BW := Below.step BW hb2
      replace R := R.stay hb2
      have HZ2 : Hid (w1.heap.size ≤ w2.heap.size) := hb2.size
      have HBG : Hid (w1.heap.size < b) := hbg
      clear A a0 a1 a2 hb2 hbg hub
      go_wp2_with fail
      refine (renew_c x p2 cc2 b w2 N (Rd.own k2) HX.out he0 he2 (HT.out.keep BW)).mono ?_
      rintro e w3 ⟨u3, ⟨v3, rfl⟩, k3, N3, hg3⟩
      obtain ⟨a3, cc3, rfl, -⟩ := k3.rd
      rw [expLabN_len] at *
      have hbb : Hid (w.heap.size + 2 < b) := by have := hz1.out; have := HBG.out; show _ < _; omega
      replace R := R.other hg3 (fun e => by cases e; have := hbb.out; omega)
      replace BW := BW.grown hg3 BW.size (fun k e => by cases e; have := hbb.out; omega)
      have k33 : Own w3 (w.heap.size + 2) (.slice a3 32 cc3) (expLabN x.1 updLab [] 32) := k3.lower (Nat.le_trans hz1.out HZ2.out)
      have c0 := (R.cell 0).trans (show _ = some _ from rfl)
      have c1 := (R.cell 1).trans (show _ = some _ from rfl)
      have c2 := (R.cell 2).trans (show _ = some _ from rfl)
      have c3 := (R.cell 3).trans (show _ = some _ from rfl)
      have c4 := (R.cell 4).trans (show _ = some _ from rfl)
      have c5 := (R.cell 5).trans (show _ = some _ from rfl)
      have fz := R.frozen
      have d0 := (N3.cell 0).trans (show _ = some _ from rfl)
      have d1 := (N3.cell 1).trans (show _ = some _ from rfl)
      have d2 := (N3.cell 2).trans (show _ = some _ from rfl)
      clear R N3 N hg3 k3 k2
      go_wp2_with fail
      refine bodyPost_ret (v := .agg #[.int .i64 0, .int .i64 0, .slice none 0 0, .slice a3 32 cc3, .int .i64 0, .int .i64 (x.2.2 + 1)]) (by simp [results, Tryd.results11, go_sem, c0, c1, c2, c3, c4, c5]) rfl ?_
      rw [HE.out]
      exact ⟨[.int .i64 0, .int .i64 0, .slice none 0 0, .slice a3 32 cc3, .int .i64 0, .int .i64 (x.2.2 + 1)], _, rfl, record_own (s := (expLabN x.1 updLab [] 32, 0, x.2.2 + 1)) 0 (Own_nil _ _) (((((((k33.set (Nat.lt_succ_self _) _).set (Nat.lt_succ_self _) _).set (Nat.lt_succ_self _) _).set (Nat.lt_succ_self _) _).set (Nat.lt_succ_self _) _).set (Nat.lt_succ_self _) _).lower (Nat.le_add_right _ 2)) (fun k hk => by simp [Value.ownBlock] at hk) (fun k hk => Nat.zero_le _), ((((((BW.setCell (Nat.le_succ _) _).setCell (Nat.le_succ _) _).setCell (Nat.le_succ _) _).setCell (Nat.le_succ _) _).setCell (Nat.le_succ _) _).setCell (Nat.le_succ _) _)⟩
  · have HE : Hid (usD x = badR (stC x)) := by show _ = _; unfold usD usC; rw [if_neg hs, if_neg hs]
    have hne : (stC x != 0) = true := by rw [bne_iff_ne]; exact hs
    clear hs
    generalize stC x = ac at *
    go_enter Tryd.func11, Tryd.ntmps11
    go_wp2_with fail
    refine (KF.out _).mono ?_
    rintro e w1 ⟨rfl, hb1⟩
    replace BW := Below.step BW hb1
    replace R := R.stay hb1
    have c0 := (R.cell 0).trans (show _ = some _ from rfl)
    have c1 := (R.cell 1).trans (show _ = some _ from rfl)
    have c2 := (R.cell 2).trans (show _ = some _ from rfl)
    have c3 := (R.cell 3).trans (show _ = some _ from rfl)
    have c4 := (R.cell 4).trans (show _ = some _ from rfl)
    have c5 := (R.cell 5).trans (show _ = some _ from rfl)
    have fz := R.frozen
    clear hb1 R A
    go_wp2_with fail
    exact bodyPost_ret (v := .agg #[.int .i64 ac, .int .i64 0, .slice none 0 0, .slice none 0 0, .int .i64 0, .int .i64 0]) (by simp [results, Tryd.results11, go_sem, c0, c1, c2, c3, c4, c5]) rfl ⟨[.int .i64 ac, .int .i64 0, .slice none 0 0, .slice none 0 0, .int .i64 0, .int .i64 0], [], rfl, by rw [HE.out]; exact badR_own _ _ _, ((((((BW.setCell (Nat.le_succ _) _).setCell (Nat.le_succ _) _).setCell (Nat.le_succ _) _).setCell (Nat.le_succ _) _).setCell (Nat.le_succ _) _).setCell (Nat.le_succ _) _)⟩
end Go.Proofs.YtdemfbbjdnjolaaDoor

/- The contracts of chapter 9's functions in the program, gathered. -/


/- The contract of the laws' own draw of a number (lwAt): it is below the bound. -/
namespace Go.Proofs.YtdemfbbjdnjolaaDoor
open Go.ChangeShapes Go.WideShapes Go.ChangeAt Go.RowKit

theorem emod_nat (v : Int) (n : Nat) (h : 0 < n) : ∃ m : Nat, v % (n : Int) = (m : Int) ∧ m < n := by
  have h1 := Int.emod_nonneg v (show (n : Int) ≠ 0 by omega)
  have h2 := Int.emod_lt_of_pos v (show (0 : Int) < (n : Int) by omega)
  exact ⟨(v % (n : Int)).toNat, by omega, by omega⟩

set_option maxRecDepth 4000 in
set_option maxHeartbeats 2000000 in
theorem lwAt_c (p : Option Addr) (q : Nat) (cs : List UInt8) (i n : Nat) (w : World) (hr : Rd w p q cs) (hl : cs.length ≤ 1048576) (hi : i ≤ 1000) (hn : n ≤ 1000000) :
    Calls Tryd.prog 8 #[.slice p cs.length q, .int .i64 (i : Int), .int .i64 (n : Int)] w fun e w' => ∃ m : Nat, e = .returned (.int .i64 (m : Int)) ∧ (m = 0 ∨ m < n) ∧ Below w.heap.size w w' := by
  by_cases h1 : n ≤ 1
  · go_enter Tryd.func8, Tryd.ntmps8
    go_wp2
    go_ret
    exact ⟨0, rfl, .inl rfl, Below.refl _ _⟩
  · have hn0 : ((n : Int) == 0) = false := by rw [beq_eq_false_iff_ne]; omega
    by_cases h2 : cs.length = 0
    · rw [h2]
      have hq : (((i : Int) * 7) % (n : Int)) = ((i * 7 % n : Nat) : Int) := by push_cast; rfl
      go_enter Tryd.func8, Tryd.ntmps8
      go_wp2
      go_ret
      exact ⟨i * 7 % n, by rw [← hq]; rfl, .inr (Nat.mod_lt _ (by omega)), Below.refl _ _⟩
    · have hk0 : ((cs.length : Int) == 0) = false := by rw [beq_eq_false_iff_ne]; omega
      have hd1 : i / cs.length ≤ i := Nat.div_le_self _ _
      have hr1 : i % cs.length < cs.length := Nat.mod_lt _ (by omega)
      have hr2 : (i + 1) % cs.length < cs.length := Nat.mod_lt _ (by omega)
      have e1 : (i : Int) / (cs.length : Int) = ((i / cs.length : Nat) : Int) := by push_cast; rfl
      have e2 : (i : Int) % (cs.length : Int) = ((i % cs.length : Nat) : Int) := by push_cast; rfl
      have e3 : ((i : Int) + 1) % (cs.length : Int) = (((i + 1) % cs.length : Nat) : Int) := by push_cast; rfl
      have et1 : (i : Int).tdiv (cs.length : Int) = ((i / cs.length : Nat) : Int) := by rw [Int.tdiv_eq_ediv_of_nonneg (by omega)]; exact e1
      have et2 : (i : Int).tmod (cs.length : Int) = ((i % cs.length : Nat) : Int) := by rw [Int.tmod_eq_emod_of_nonneg (by omega)]; exact e2
      have et3 : ((i : Int) + 1).tmod (cs.length : Int) = (((i + 1) % cs.length : Nat) : Int) := by rw [Int.tmod_eq_emod_of_nonneg (by omega)]; exact e3
      obtain ⟨b, o, rfl, hc⟩ := hr.2.2.2 (by omega)
      have c1 := hc _ hr1
      have c2 := hc _ hr2
      have h3 := at8_lo cs (i % cs.length)
      have h4 := at8_hi cs (i % cs.length)
      have h5 := at8_lo cs ((i + 1) % cs.length)
      have h6 := at8_hi cs ((i + 1) % cs.length)
      generalize at8 cs (i % cs.length) = x at *
      generalize at8 cs ((i + 1) % cs.length) = y at *
      generalize i / cs.length = d at *
      generalize i % cs.length = r at *
      generalize (i + 1) % cs.length = r2 at *
      have g1 : (r : Int) < (cs.length : Int) := by omega
      have g2 : (r2 : Int) < (cs.length : Int) := by omega
      clear hc hr
      by_cases h7 : 200 < n
      · go_enter Tryd.func8, Tryd.ntmps8
        go_wp2
        go_quiet (fail)
        go_wp2
        obtain ⟨m, hm, hlt⟩ := emod_nat ((x + (d : Int) * 3) * 251 + y) n (by omega)
        go_ret
        exact ⟨m, by rw [← hm]; rfl, .inr hlt, below_drewN (Below.refl _ _) _⟩
      · go_enter Tryd.func8, Tryd.ntmps8
        go_wp2
        go_quiet (fail)
        go_wp2
        obtain ⟨m, hm, hlt⟩ := emod_nat (x + (d : Int) * 3) n (by omega)
        go_ret
        exact ⟨m, by rw [← hm]; rfl, .inr hlt, below_drewN (Below.refl _ _) _⟩
end Go.Proofs.YtdemfbbjdnjolaaDoor

