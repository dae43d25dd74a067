/- CutRecords of the program, at every argument: the loop over its iterator gathers copies of the pieces. What was there stays. -/
import Derived.Test.YtdemfbbjdnjolaaGreatDoorJoint20
namespace Go.Proofs.YtdemfbbjdnjolaaGreatDoor
open Go.ChangeShapes Go.WideShapes Go.ChangeAt Go.RowKit Go.Shelf

attribute [local go_sem] Oper.semAt_some

theorem recordsIn_c (p : Option Addr) (q n : Nat) (w : World) :
    Calls Tryz.prog 49 #[.slice p n q] w fun e w' => e = .returned (.func (.func 67) #[] #[.pointer (some ⟨w.heap.size, 0, none⟩)]) ∧ w' = w.alloc (.cells #[.slice p n q] 22) := by
  go_enter Tryz.func49, Tryz.ntmps49
  go_wp2
  go_ret
  exact ⟨rfl, rfl⟩
theorem records_stop (n Bd : Nat) (w W : World) (p : Option Addr) (q : Nat) (data : List UInt8) (hr : Rd w p q data) (hd : data.length ≤ 600) (hBd : W.cell? ⟨Bd, 0, none⟩ = some (.slice p data.length q)) (hW : Below w.heap.size w W) :
    SeqStopsK Fence.wide n Tryz.prog 67 #[.pointer (some ⟨Bd, 0, none⟩)] (fun x : Pce w => x.encs) (Below w.heap.size) (fun xs => xs.map Pce.key = itemsR data 0 0) (fun pre => pre.map Pce.key <+: itemsR data 0 0) 9 W := fun l J Jx W1 hW1 hJ _ hY h0 =>
  recordsIn1_c n l Bd w p q data hr hd J Jx W1 hJ hY (cell_keep hBd hW1) (hW.trans (hW1.mono hW.size)) h0
/-- A block of cells is none that may be turned. -/
theorem cells_ne {W : World} {row : Option Nat} (hr : ∀ r, row = some r → ∃ o : Obj, W.heap[r]? = some o ∧ o.isCells = false) {k : Nat} {vs : Array Value} {t : TypeId} {z : Nat × Nat} (h : W.heap[k]? = some (.cells vs t z)) : some k ≠ row := fun e => by
  obtain ⟨o, ho, hc⟩ := hr k e.symm
  rw [h] at ho
  cases ho
  cases hc
theorem own_cells {w : World} {B : Nat} {v : Value} {bs : List UInt8} (h : Own w B v bs) {k : Nat} (hk : k ∈ v.ownBlock.toList) : ∃ vs t z, w.heap[k]? = some (.cells vs t z) := by
  rcases h.2 with ⟨rfl, -⟩ | ⟨g, cap, cur, rfl, -, hg, -⟩
  · simp [Value.ownBlock] at hk
  · simp [Value.ownBlock] at hk
    subst hk
    exact ⟨_, _, _, hg⟩
theorem all_cells {w : World} {B : Nat} : ∀ {l : List BlkD} {xs : List Value} {fp : List Nat}, OwnAll bytC w B l xs fp → ∀ k, k ∈ fp → ∃ vs t z, w.heap[k]? = some (.cells vs t z)
  | [], _, _, h => fun k hk => by rw [h.2] at hk; cases hk
  | _ :: _, _, _, ⟨us, ys, f, g, _, hf, ⟨v, _, ho, hv⟩, hl⟩ => fun k hk => by
    rw [hf] at hk
    rcases List.mem_append.1 hk with h1 | h1
    · rw [hv] at h1; exact own_cells ho h1
    · exact all_cells hl k h1
theorem ownL_cells {w : World} {e : TypeId} {B : Nat} {v : Value} {l : List BlkD} {xs : List Value} {fp : List Nat} (h : OwnL e bytC w B v l xs fp) {k : Nat} (hk : k ∈ v.ownBlock.toList ++ fp) : ∃ vs t z, w.heap[k]? = some (.cells vs t z) := by
  rcases List.mem_append.1 hk with h1 | h1
  · rcases h.row.2 with ⟨rfl, -⟩ | ⟨g, cap, cur, rfl, -, hg, -⟩
    · simp [Value.ownBlock] at h1
    · simp [Value.ownBlock] at h1
      subst h1
      exact ⟨_, _, _, hg⟩
  · exact all_cells h.all k h1
theorem ownL_turn {W W' : World} {row : Option Nat} {e : TypeId} {B : Nat} {v : Value} {l : List BlkD} {xs : List Value} {fp : List Nat} (h : OwnL e bytC W B v l xs fp) (hg : W.grownBy W' row) (hr : ∀ r, row = some r → ∃ o : Obj, W.heap[r]? = some o ∧ o.isCells = false) : OwnL e bytC W' B v l xs fp :=
  h.fr fun k hk => by
    obtain ⟨vs, t, z, hc⟩ := ownL_cells h hk
    exact hg.block k (h.ins k hk).2 (cells_ne hr hc)
theorem arr_turn {W W' : World} {row : Option Nat} {b : Nat} {t : TypeId} {vs : List Value} (h : Arr W b t vs) (hg : W.grownBy W' row) (hr : ∀ r, row = some r → ∃ o : Obj, W.heap[r]? = some o ∧ o.isCells = false) : Arr W' b t vs :=
  (hg.block b h.lt (cells_ne hr h)).trans h
theorem keeps_below {W W' : World} (h : Below W.heap.size W W') : KeepsOthers W W' := ⟨h.size, fun k _ hk _ => (h.block k (Array.getElem?_eq_some_iff.1 hk).1).trans hk⟩
/-- What holds between two rounds: the copies so far, in the list's box. -/
def CutI (w : World) (pre : List (Pce w)) (W : World) : Prop :=
  ((∃ v xs fp, Arr W (w.heap.size + 1) 32 [v] ∧ OwnL 22 bytC W (w.heap.size + 3) v (pre.map Pce.bs) xs fp) ∧ (∀ x ∈ pre, x.c = 0) ∧ Arr W w.heap.size 34 [.int .i64 0, .slice none 0 0] ∧ w.heap.size + 3 ≤ W.heap.size) ∧ Below w.heap.size w W
/-- What holds where a round has left. -/
def CutX (w : World) (c : Code) (pre : List (Pce w)) (W : World) : Prop :=
  (c = .ret ∧ ∃ (pr0 : List (Pce w)) (x : Pce w), pre = pr0 ++ [x] ∧ (∀ y ∈ pr0, y.c = 0) ∧ (x.c == 0) = false ∧ x.bs = [] ∧ Arr W w.heap.size 34 [.int .i64 x.c, .slice none 0 0]) ∧ Below w.heap.size w W
theorem cutI_own (w : World) (B : Nat) (hB : w.heap.size ≤ B) : OwnFrom B (CutI w) :=
  OwnFrom.and (fun _ _ _ _ hs hg hr => by
    obtain ⟨⟨v, xs, fp, h1, h2⟩, h3, h4, h5⟩ := hs
    exact ⟨⟨v, xs, fp, arr_turn h1 hg (fun r e => (hr r e).2), ownL_turn h2 hg (fun r e => (hr r e).2)⟩, h3, arr_turn h4 hg (fun r e => (hr r e).2), Nat.le_trans h5 hg.size⟩) (ownFrom_below (Nat.le_refl _) hB)
theorem cutX_own (w : World) (B : Nat) (hB : w.heap.size ≤ B) (c : Code) : OwnFrom B (CutX w c) :=
  OwnFrom.and (fun _ _ _ _ hs hg hr => by
    obtain ⟨h1, pr0, x, h2, h3, h4, h5, h6⟩ := hs
    exact ⟨h1, pr0, x, h2, h3, h4, h5, arr_turn h6 hg (fun r e => (hr r e).2)⟩) (ownFrom_below (Nat.le_refl _) hB)
theorem keys_zero {w : World} : ∀ {l : List (Pce w)}, (∀ x ∈ l, x.c = 0) → l.map Pce.key = (l.map Pce.bs).map (fun b => ((0 : Int), b))
  | [], _ => rfl
  | x :: l, h => by
    rw [List.map_cons, List.map_cons, List.map_cons, keys_zero (fun y hy => h y (List.mem_cons_of_mem _ hy))]
    show (x.c, x.bs) :: _ = _
    rw [h x (List.mem_cons_self ..)]
set_option maxRecDepth 100000 in
set_option maxHeartbeats 4000000 in
theorem implCr_c (data : List UInt8) (p : Option Addr) (q : Nat) (w : World) (hr : Rd w p q data) :
    Calls Tryz.prog 10 #[.slice p data.length q] w fun e w' => ∃ v, e = .returned (.agg #[.int .i64 (crC data), v]) ∧ (∃ xs fp, OwnL 22 bytC w' w.heap.size v (crL data) xs fp) ∧ Below w.heap.size w w' := by
  by_cases hd : data.length ≤ 600
  · have hdI : ¬ (600 < (data.length : Int)) := by omega
    have HR : Hid (Rd w p q data) := hr
    have hq1 : data.length ≤ q := hr.1
    have hq2 : q ≤ 2 ^ 63 - 1 := hr.2.1
    clear hr
    refine (callsIn_wide (n := 3)).1 ?_
    refine callsIn_of_wp_marks Tryz.func10 rfl trivial ?_ rfl
    simp only [Tryz.ntmps10, List.size_toArray, List.length_cons, List.length_nil, Nat.reduceAdd, Nat.reduceSub, Array.replicate_succ, Array.replicate_zero, List.push_toArray, List.append_toArray, List.nil_append, List.cons_append]
    gi_wp2_with fail
    refine ⟨trivial, (callsIn_wide.2 (recordsIn_c p q data.length _)).mono ?_⟩
    rintro e w1 ⟨rfl, rfl⟩
    gi_wp2_with fail
    have R0 : Arr (((w.alloc (.cells #[.int .i64 0, .slice none 0 0] 34)).alloc (.cells #[.slice none 0 0] 32)).alloc (.cells #[.slice p data.length q] 22)) w.heap.size 34 [.int .i64 0, .slice none 0 0] := Arr.old _ _ (Arr.old _ _ (Arr.new w [.int .i64 0, .slice none 0 0] 34))
    have L0 : Arr (((w.alloc (.cells #[.int .i64 0, .slice none 0 0] 34)).alloc (.cells #[.slice none 0 0] 32)).alloc (.cells #[.slice p data.length q] 22)) (w.heap.size + 1) 32 [.slice none 0 0] := by
      have h := Arr.new (w.alloc (.cells #[.int .i64 0, .slice none 0 0] 34)) [.slice none 0 0] 32
      rw [size_alloc] at h
      exact h.old _ _
    have D0 : Arr (((w.alloc (.cells #[.int .i64 0, .slice none 0 0] 34)).alloc (.cells #[.slice none 0 0] 32)).alloc (.cells #[.slice p data.length q] 22)) (w.heap.size + 1 + 1) 22 [.slice p data.length q] := by
      have h := Arr.new ((w.alloc (.cells #[.int .i64 0, .slice none 0 0] 34)).alloc (.cells #[.slice none 0 0] 32)) [.slice p data.length q] 22
      rw [size_alloc, size_alloc] at h
      exact h
    have B0 : Below w.heap.size w (((w.alloc (.cells #[.int .i64 0, .slice none 0 0] 34)).alloc (.cells #[.slice none 0 0] 32)).alloc (.cells #[.slice p data.length q] 22)) := Below.mk (Below.mk (alloc_below _ _) _) _
    have z0 : (((w.alloc (.cells #[.int .i64 0, .slice none 0 0] 34)).alloc (.cells #[.slice none 0 0] 32)).alloc (.cells #[.slice p data.length q] 22)).heap.size = w.heap.size + 3 := by rw [size_alloc, size_alloc, size_alloc]
    refine wpIn_rangeFunc_ownG rfl (by decide) (gf := 67) (lb := #[.pointer (some ⟨w.heap.size + 1 + 1, 0, none⟩)]) rfl trivial (enters_of Tryz.func67 (by kernel_rfl) rfl)
      (records_stop 2 (w.heap.size + 1 + 1) w _ p q data HR.out hd ((D0.cell 0).trans (show _ = some _ from rfl)) B0) belowK_t (belowK_b (by rw [z0]; omega)) (Below.refl _ _) (fun _ => rfl)
      (CutI w) (CutX w) (cutI_own w _ (by rw [z0]; omega)) (cutX_own w _ (by rw [z0]; omega))
      ⟨⟨⟨_, [], [], L0, nil_ownC _ _⟩, fun x hx => (by cases hx), R0, by rw [z0]; exact Nat.le_refl _⟩, B0⟩
      (fun x => { tmps := #[.slice p data.length q, undef, .pointer (some ⟨w.heap.size, 0, none⟩), .pointer (some ⟨w.heap.size + 1, 0, none⟩), .slice x.p x.bs.length x.q, .int .i64 x.c, .slice p data.length q, .int .i64 data.length, .bool false, undef, .slice p data.length q, .func (.func 67) #[] #[.pointer (some ⟨w.heap.size + 1 + 1, 0, none⟩)], .slice x.p x.bs.length x.q, .int .i64 x.c, undef, undef, undef, undef, undef, undef, undef, undef, undef, undef, undef], defers := [] }) ?assign ?body ?done ?stop
    case assign =>
      intro l x W K hK
      dsimp only [Pce.encs]
      gi_wp2
      exact hK
    case body =>
      rintro l pre x W ⟨⟨⟨v, xs, fp, L, ho⟩, hz, R, hz33⟩, BW⟩ hlen
      have HZ3 : Hid (w.heap.size + 3 ≤ W.heap.size) := hz33
      clear hz33
      clear R0 L0 D0
      have hol : (pre.map Pce.bs).length ≤ 8 := by rw [List.length_map]; omega
      obtain ⟨po, qo, rfl, hord⟩ := ho.rd
      have hqo1 : (pre.map Pce.bs).length ≤ qo := hord.1
      have hqo2 : qo ≤ 2 ^ 63 - 1 := hord.2.1
      clear hord
      have c0 := (R.cell 0).trans (show _ = some _ from rfl)
      have c1 := (R.cell 1).trans (show _ = some _ from rfl)
      have fz := R.frozen
      have d0 := (L.cell 0).trans (show _ = some _ from rfl)
      have fo := L.frozen
      obtain ⟨xp, xq, xb, xc, xrd, xok⟩ := x
      rcases xok with ⟨rfl, hx5⟩ | ⟨hc0, rfl, rfl, rfl⟩
      · have HX : Hid (Rd W xp xq xb) := xrd.keep BW
        obtain ⟨X, HXX⟩ : ∃ X : Pce w, X = ⟨xp, xq, xb, 0, xrd, .inl ⟨rfl, hx5⟩⟩ := ⟨_, rfl⟩
        have HXb : Hid ((pre ++ [X]).map Pce.bs = pre.map Pce.bs ++ [xb]) := by show _ = _; rw [HXX]; simp
        have HXz : Hid (∀ y ∈ pre ++ [X], y.c = 0) := fun y hy => by
          rcases List.mem_append.1 hy with h | h
          · exact hz y h
          · rw [List.mem_singleton.1 h, HXX]
        dsimp only
        rw [← HXX]
        clear HXX
        obtain ⟨out, HO⟩ : ∃ out, Hid (out = pre.map Pce.bs) := ⟨_, rfl⟩
        rw [← HO.out] at ho hol hqo1 HXb d0 L
        clear hz xrd
        gi_wp2_with fail
        have g1 := HW.at d0
        have hne := HW.some W
        refine wpIn_region_pick [0, 1] 4 2 2 rfl rfl rfl (by kernel_rfl) (by kernel_rfl) (by kernel_rfl) (by kernel_rfl) (by kernel_rfl) ?_
        simp only [opsAt, List.getElem?_toArray, List.getElem?_cons_zero, List.getElem?_cons_succ]
        repeat (go_big_quiet_step (fail))
        refine wpQuiet_nil ?_
        refine wpM_only (i := 2) (by kernel_rfl) ?_
        refine mOp_call rfl (by go_simp) 50 _ #[.slice xp xb.length xq] (fun w => by go_simp) rfl ?_
        rintro _ ⟨s1, rfl⟩
        refine (bytesClone_c xp xq xb _ (HX.out.keep s1.h) (by omega)).mono ?_
        rintro e w3 ⟨u3, rfl, k3, hb3⟩
        refine ⟨u3, rfl, ⟨⟨_, hb3⟩, rfl⟩, ?_⟩
        obtain ⟨pv, qv, rfl, -⟩ := k3.rd
        have hne2 := HW.some w3
        refine wpM_only (i := 3) (by kernel_rfl) ?_
        refine mOp_make rfl (by go_simp) ?_
        rintro _ ⟨s5, rfl⟩
        refine ⟨.slice (some ⟨s5.w.heap.size, 0, none⟩) 1 1, s5.w.alloc (.cells #[.slice pv xb.length qv] 22), by go_simp, ⟨⟨_, alloc_below _ _⟩, rfl⟩, ?_⟩
        refine wpM_end (by kernel_rfl) rfl (by kernel_rfl) (by decide) ?_
        rintro _ ⟨s6, rfl⟩
        simp only [List.drop_succ_cons, List.drop_zero]
        have hnew : ∀ j u, [Value.slice pv xb.length qv][j]? = some u → s6.w.cell? ((⟨s5.w.heap.size, 0, none⟩ : Addr).add j) = some u := fun j u hj => cell_keep ((Arr.new s5.w [.slice pv xb.length qv] 22).cells j u hj) s6.h
        have hb4 := Below.step s5.h (Below.step (alloc_below s5.w (.cells #[.slice pv xb.length qv] 22)) s6.h)
        have k5 := k3.stay hb4
        have hb5 := Below.step (Below.step s1.h hb3) hb4
        have ho5 := ho.stay hb5
        have BW5 := Below.step BW hb5
        have R5 := R.stay hb5
        have O5 := L.stay hb5
        have hz4 : Hid (W.heap.size ≤ s1.w.heap.size) := s1.h.size
        have hrow5 : Hid (s6.w.ownsRow (w.heap.size + 3) 22 1 (.slice po out.length qo) out.length xs) := ho5.row
        have hz6 : Hid (W.heap.size ≤ s6.w.heap.size) := hb5.size
        have KO : Hid (KeepsOthers W s6.w) := keeps_below hb5
        have KB : Hid (Below w.heap.size W s6.w) := hb5.mono BW.size
        have hzW : Hid (w.heap.size + 1 < W.heap.size) := L.lt
        have hz3 : Hid (w.heap.size + 3 ≤ W.heap.size) := HZ3.out
        generalize s6.w = W6 at *
        generalize s5.w.heap.size = H5 at *
        generalize s1.w.heap.size = H1 at *
        clear g1 hne hne2 c0 c1 fz d0 fo
        obtain ⟨i0, hi, hz0, hz1, hz2⟩ := info_parts infoBlk
        go_simp
        go_wp2_with (at_builtin; refine wpList_append_lies _ rfl (.tmp 18) (.tmp 21) 32 rfl (w.heap.size + 3) 22 i0 (.slice none 0 0) 1 24 Tryz.underlying32 hi hz0 hz1 hz2 rfl (by decide) (.slice po out.length qo) out.length xs rfl hrow5.out ⟨H5, 0, none⟩ 1 1 [.slice pv xb.length qv] rfl rfl hnew (by intro u hu; simp at hu; subst hu; rfl) (by decide) (by unfold maxLen; omega) (by omega) (Nat.le_trans hz3.out hz6.out) W6.heap.size rfl ?_; intro g6 c6 w6 hown6 hgrow6 hat6 hlt6; have hne6 : ∀ k, (Value.slice po out.length qo).ownBlock = some k → w.heap.size + 3 ≤ k := (fun k hk => (ho5.ins k (List.mem_append_left _ (mem_opt.2 hk))).1); have O6 := O5.other hgrow6 (fun e => by have := hne6 _ e; omega); have R6 := R5.other hgrow6 (fun e => by have := hne6 _ e; omega); have d0 := (O6.cell 0).trans (show _ = some _ from rfl); have fo := O6.frozen)
        have hlow : Hid (∀ j, (Value.slice pv xb.length qv).ownBlock = some j → H1 ≤ j) := fun j hj => k5.ge j hj
        have hinsO : Hid (∀ j, j ∈ (Value.slice po out.length qo).ownBlock.toList ++ fp → j < W.heap.size) := fun j hj => (ho.ins j hj).2
        have ka := blk_own_c (bs := xb) (k5.lower (B' := w.heap.size + 3) (by have := hz4.out; have := hz3.out; omega))
        have OP := ho5.push ka (fun j hj hj2 => by
          have h1 := hlow.out j (mem_opt.1 hj)
          have h2 := hinsO.out j hj2
          have h3 := hz4.out
          omega) (k := out.length + 1) (v' := .slice (some ⟨g6, 0, none⟩) (out.length + 1) c6) (g := g6) hown6 (by simp) hgrow6 rfl hat6
        have BW6 := BW5.grown hgrow6 BW5.size (fun k hk => by have := hne6 k hk; omega)
        have OQ := OP.setB (p := ⟨w.heap.size + 1, 0, none⟩) (by simp) (.slice (some ⟨g6, 0, none⟩) (out.length + 1) c6)
        have O7 := O6.set 0 (.slice (some ⟨g6, 0, none⟩) (out.length + 1) c6)
        have R7 := R6.setOther (a := ⟨w.heap.size + 1, 0, none⟩) (by simp) (.slice (some ⟨g6, 0, none⟩) (out.length + 1) c6)
        have B7 := BW6.setCell (p := ⟨w.heap.size + 1, 0, none⟩) (Nat.le_succ _) (.slice (some ⟨g6, 0, none⟩) (out.length + 1) c6)
        have K7 := (KO.out.trans (KeepsOthers.of_grownBy hgrow6 (fun j _ ej hj => by
          obtain ⟨vs, t, z, hc⟩ := ownL_cells ho5 (List.mem_append_left _ (mem_opt.2 ej))
          rw [hc] at hj
          cases hj
          rfl))).trans (KeepsOthers.setCell w6 ⟨w.heap.size + 1, 0, none⟩ (.slice (some ⟨g6, 0, none⟩) (out.length + 1) c6))
        have KB7 := (KB.out.grown hgrow6 (Nat.le_trans BW.size hz6.out) (fun k hk => by have := hne6 k hk; omega)).setCell (p := ⟨w.heap.size + 1, 0, none⟩) (Nat.le_succ _) (.slice (some ⟨g6, 0, none⟩) (out.length + 1) c6)
        rw [← HXb.out] at OQ
        clear ho ho5 k3 k5 hown6 hgrow6 hat6 hnew hrow5 ka BW5 hb3 hb4 hb5 O5 R R5 OP BW6
        go_wp2_with fail
        exact ⟨rfl, K7.from _, KB7, ⟨⟨_, _, _, O7, OQ⟩, HXz.out, R7, Nat.le_trans hz3.out K7.size⟩, B7⟩
      · have hcn : (xc != 0) = true := by rw [bne, hc0]; rfl
        dsimp only
        gi_wp2
        exact ⟨((KeepsOthers.setCell _ _ _).trans (KeepsOthers.setCell _ _ _)).from _, ⟨rfl, pre, _, rfl, hz, hc0, rfl, (R.set 0 (.int .i64 xc)).set 1 (.slice none 0 0)⟩, (BW.setCell (Nat.le_refl _) _).setCell (Nat.le_refl _) _⟩
    case done =>
      rintro D ys W hD hS ⟨⟨⟨v, xs, fp, L, ho⟩, hz, R, hz33⟩, BW⟩ hK
      rw [z0] at hD
      clear R0 L0 D0 B0 z0
      obtain ⟨po, qo, rfl, hord⟩ := ho.rd
      have hqo1 : (ys.map Pce.bs).length ≤ qo := hord.1
      have hqo2 : qo ≤ 2 ^ 63 - 1 := hord.2.1
      clear hord
      have c0 := (R.cell 0).trans (show _ = some _ from rfl)
      have c1 := (R.cell 1).trans (show _ = some _ from rfl)
      have fz := R.frozen
      have d0 := (L.cell 0).trans (show _ = some _ from rfl)
      have fo := L.frozen
      have HC : Hid (crC data = 0 ∧ crL data = ys.map Pce.bs) := by
        have h := cut_all data data.length 0 [] (ys.map Pce.bs) (by omega) (by simp) (hS.symm.trans (keys_zero hz))
        exact ⟨by rw [crC, if_pos hd, h], by rw [crL, if_pos hd, h]; rfl⟩
      dsimp only
      gi_wp2
      rw [List.length_map] at ho
      have R2 := (R.set 0 (.int .i64 0)).set 1 (.slice po ys.length qo)
      have hK2 := ((KeepsOthers.setCell W ⟨w.heap.size, 0, none⟩ (.int .i64 0)).trans (KeepsOthers.setCell _ ⟨w.heap.size, 1, none⟩ (.slice po ys.length qo))).same D _ hK rfl
      have R3 := arr_turn R2 (grownBy_putObj' _ D (.deferred none)) (fun r e => by cases e; exact ⟨_, hK2, rfl⟩)
      have ho3 := ownL_turn ((ho.setB (p := ⟨w.heap.size, 0, none⟩) (by simp) (.int .i64 0)).setB (p := ⟨w.heap.size, 1, none⟩) (by simp) (.slice po ys.length qo)) (grownBy_putObj' _ D (.deferred none)) (fun r e => by cases e; exact ⟨_, hK2, rfl⟩)
      have B3 := ((BW.setCell (p := ⟨w.heap.size, 0, none⟩) (Nat.le_refl _) (.int .i64 0)).setCell (p := ⟨w.heap.size, 1, none⟩) (Nat.le_refl _) (.slice po ys.length qo)).trans (belowK_b (w := w) (Nat.le_refl _) _ D _ (.deferred none) (by omega) hK2 rfl rfl)
      have e0 := (R3.cell 0).trans (show _ = some (.int .i64 0) from rfl)
      have e1 := (R3.cell 1).trans (show _ = some (.slice po ys.length qo) from rfl)
      refine ⟨by simp, .inl ⟨_, _, rfl, run_takeDeferred hK2, ?_⟩⟩
      exact ⟨.agg #[.int .i64 0, .slice po ys.length qo], by simp [results, Tryz.results10, go_sem, e0, e1], _, by rw [HC.out.1], ⟨_, _, by rw [HC.out.2]; exact ho3.low (Nat.le_add_right _ 3)⟩, B3⟩
    case stop =>
      rintro D c pre W hD hS ⟨⟨rfl, pr0, x, rfl, hp0, hxc, hxb, R⟩, BW⟩ hK
      rw [z0] at hD
      clear R0 L0 D0 B0 z0
      have c0 := (R.cell 0).trans (show _ = some _ from rfl)
      have c1 := (R.cell 1).trans (show _ = some _ from rfl)
      have HC : Hid (crC data = x.c ∧ crL data = []) := by
        rw [List.map_append, keys_zero hp0, List.map_singleton, show x.key = (x.c, []) from by rw [Pce.key, hxb]] at hS
        have h := cut_bad data data.length 0 [] (pr0.map Pce.bs) x.c (by omega) (by simp) (by simpa using hxc) hS
        exact ⟨by rw [crC, if_pos hd, h], by rw [crL, if_pos hd, h]⟩
      dsimp only
      gi_wp2
      have R3 := arr_turn R (grownBy_putObj' _ D (.deferred none)) (fun r e => by cases e; exact ⟨_, hK, rfl⟩)
      have B3 := BW.trans (belowK_b (w := w) (Nat.le_refl _) _ D _ (.deferred none) (by omega) hK rfl rfl)
      have e0 := (R3.cell 0).trans (show _ = some (.int .i64 x.c) from rfl)
      have e1 := (R3.cell 1).trans (show _ = some (.slice none 0 0) from rfl)
      refine ⟨by simp, .inl ⟨_, _, rfl, run_takeDeferred hK, ?_⟩⟩
      exact ⟨.agg #[.int .i64 x.c, .slice none 0 0], by simp [results, Tryz.results10, go_sem, e0, e1], _, by rw [HC.out.1], ⟨_, _, by rw [HC.out.2]; exact nil_ownC _ _⟩, B3⟩
  · have hdI : (600 < (data.length : Int)) := by omega
    rw [show crC data = 2 by rw [crC, if_neg hd], show crL data = [] by rw [crL, if_neg hd]]
    go_enter Tryz.func10, Tryz.ntmps10
    go_wp2
    exact bodyPost_ret (v := .agg #[.int .i64 2, .slice none 0 0]) (by simp [results, Tryz.results10, go_sem]) rfl ⟨_, rfl, ⟨_, _, nil_ownC _ _⟩, alloc_below _ _⟩
end Go.Proofs.YtdemfbbjdnjolaaGreatDoor

