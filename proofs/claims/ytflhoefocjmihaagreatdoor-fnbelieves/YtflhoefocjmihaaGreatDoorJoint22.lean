/- The contracts of chapter 7's functions in the program, at every argument: code and bytes, where the two tables hold what the program's text lays (Tabs). What was there stays. (Written by tools/sch_i.py.) -/
import Derived.Test.YtflhoefocjmihaaGreatDoorJoint21
import Derived.Laws.CopyOwn
import Derived.Laws.Rows
import Derived.Laws.Tables
import Derived.Maps.OwnSet
import Derived.Maps.OwnOps
import Derived.DeepKeys5
namespace Go.Proofs.YtflhoefocjmihaaGreatDoor
open Go.ChangeShapes Go.WideShapes Go.ChangeAt Go.RowKit

set_option maxRecDepth 4000 in
set_option maxHeartbeats 1000000 in
theorem implEx_c (p p2 : Option Addr) (q q2 : Nat) (exporter l ctx : List UInt8) (n : Int) (w : World) (hr : Rd w p q exporter) (hr2 : Rd w p2 q2 ctx) (hl : l.length ≤ 1048576) (hT : Tabs w) :
    Calls Tryz.prog 76 #[.slice p exporter.length q, .string (strB l), .slice p2 ctx.length q2, .int .i64 n] w fun e w' => ∃ u, e = .returned (.agg #[.int .i64 (exC exporter l ctx n), u]) ∧ Own w' w.heap.size u (exL exporter l ctx n) ∧ Below w.heap.size w w' := by
  have HT : Hid (Tabs w) := hT
  clear hT
  cases h1 : is32 exporter
  · rw [show exC exporter l ctx n = 1 by simp [exC, h1], show exL exporter l ctx n = [] by simp [exL, exC, h1]]
    go_enter Tryz.func76, Tryz.ntmps76
    go_wp2_with fail
    refine (isKey_c p q exporter _).mono ?_
    rintro e w' ⟨rfl, hw⟩
    subst hw
    rw [h1]
    go_wp2
    exact bodyPost_ret (v := .agg #[.int .i64 1, .slice none 0 0]) (by simp [results, Tryz.results76, go_sem]) rfl ⟨_, rfl, Own_nil _ _, alloc_below _ _⟩
  · by_cases hc : labelC l ctx n = 0
    · obtain ⟨g1, g2, g3⟩ := labelC_zero hc
      obtain ⟨m, rfl, hm⟩ := nat255 g3
      have l1 : exporter.length = 32 := by simpa [is32] using h1
      rw [show exC exporter l ctx (m : Int) = 0 by simp [exC, h1, hc], show exL exporter l ctx (m : Int) = exportN exporter l ctx m by simp [exL, exC, h1, hc]]
      have KF : Hid (∀ w, Calls Tryz.prog 128 #[.string (strB l), .slice p2 ctx.length q2, .int .i64 (m : Int)] w fun e w' => e = .returned (.int .i64 0) ∧ w' = w) := fun w => by
        have g := labelFault_c p2 q2 l ctx (m : Int) w hl
        rw [hc] at g
        exact g
      obtain ⟨dg, hdg⟩ : ∃ d, Hid (d = digestN ctx) := ⟨_, rfl⟩
      have HDL : Hid (dg.length = 32) := by show _ = _; rw [hdg.out, digestN_len]
      have KDg : Hid (∀ w, Rd w p2 q2 ctx → Tabs w → Calls Tryz.prog 69 #[.slice p2 ctx.length q2] w fun e w' => ∃ a c, e = .returned (.agg #[.int .i64 0, .slice a 32 c]) ∧ Own w' w.heap.size (.slice a 32 c) dg ∧ Below w.heap.size w w') := fun w h h' => by rw [hdg.out]; exact implDg_ok p2 q2 ctx w h h' (by omega)
      have KG : Hid (∀ w, Rd w p q exporter → Calls Tryz.prog 130 #[.slice p exporter.length q] w fun e w' => ∃ f, e = .returned f ∧ Tells w' f exporter ∧ Below w.heap.size w w') := fun w h => given_c p q exporter w h (by omega)
      have KD : Hid (∀ w f, Tells w f exporter → Calls Tryz.prog 131 #[f, .string (strB l)] w fun e w' => ∃ g, e = .returned g ∧ Tells w' g (deriveN exporter l []) ∧ Below w.heap.size w w') := fun w f h => chainDer_c f exporter l w h (by omega) g1
      have KX : Hid (∀ w f a c, Tells w f (deriveN exporter l []) → Rd w a c dg → Calls Tryz.prog 132 #[f, .string ⟨#[101, 120, 112, 111, 114, 116, 101, 114]⟩, .slice a 32 c, .int .i64 (m : Int)] w fun e w' => ∃ g, e = .returned g ∧ Tells w' g (exportN exporter l ctx m) ∧ Below w.heap.size w w') := fun w f a c h h' => by
        have k := chainExp_c f _ exporterB dg m a c w h h' (by rw [deriveN_len]; decide) (by
          have e1 : labelOk exporterB = true := by decide
          have := HDL.out
          simp [labelC, e1, inB]; omega)
        rw [HDL.out, hdg.out] at k
        rw [exporter_str]
        exact k
      have HR : Hid (Rd w p q exporter) := hr
      have HR2 : Hid (Rd w p2 q2 ctx) := hr2
      clear l1 hr hr2 hc g1 g3
      go_enter Tryz.func76, Tryz.ntmps76
      go_wp2_with fail
      refine (isKey_c p q exporter _).mono ?_
      rintro e w' ⟨rfl, hw⟩
      subst hw
      rw [h1]
      go_wp2_with fail
      refine (KF.out _).mono ?_
      rintro e w' ⟨rfl, hw⟩
      subst hw
      go_wp2_with fail
      refine (KDg.out _ (HR2.out.keep (alloc_below _ _)) (HT.out.keep (alloc_below _ _))).mono ?_
      rintro e wm ⟨ad, cd, rfl, od, bd⟩
      have BW := Below.res bd
      have CC := (Arr.new w [.int .i64 0, .slice none 0 0] 45).stay bd
      have hz : Hid (w.heap.size < wm.heap.size) := size_lt bd
      have RZ := Rd.own od
      have f1 := bytes_f1 0 ad 32 cd
      clear bd od KDg KF
      go_wp2_with fail
      clear f1
      refine (KG.out _ (HR.out.keep BW)).mono ?_
      rintro e w1 ⟨f1, rfl, t1, b1⟩
      replace BW := Below.step BW b1
      replace CC := CC.stay b1
      replace hz : Hid (w.heap.size < w1.heap.size) := Nat.lt_of_lt_of_le hz.out b1.size
      replace RZ := RZ.keep b1
      clear b1
      go_wp2_with fail
      refine (KD.out _ f1 t1).mono ?_
      rintro e w2 ⟨f2, rfl, t2, b2⟩
      replace BW := Below.step BW b2
      replace CC := CC.stay b2
      replace hz : Hid (w.heap.size < w2.heap.size) := Nat.lt_of_lt_of_le hz.out b2.size
      replace RZ := RZ.keep b2
      clear b2 t1
      go_wp2_with fail
      refine (KX.out _ f2 _ _ t2 RZ).mono ?_
      rintro e w3 ⟨f3, rfl, t3, b3⟩
      replace BW := Below.step BW b3
      replace CC := CC.stay b3
      replace hz : Hid (w.heap.size < w3.heap.size) := Nat.lt_of_lt_of_le hz.out b3.size
      replace RZ := RZ.keep b3
      clear b3 t2
      go_wp2_with fail
      refine (toldBy_c f3 (exportN exporter l ctx m) _ t3 (HT.out.keep BW)).mono ?_
      rintro e w4 ⟨u, rfl, ho, b4⟩
      replace ho := ho.lower (B' := w3.heap.size) (Nat.le_refl _)
      replace BW := Below.step BW b4
      replace CC := CC.stay b4
      clear b4 t3
      obtain ⟨a, cap, rfl, -⟩ := ho.rd
      have c0 := CC.cell 0
      have c1 := CC.cell 1
      simp at c0 c1
      have fz := CC.frozen
      clear HT HR HR2 KG KX KD RZ HDL hdg
      go_wp2
      refine bodyPost_ret (v := .agg #[.int .i64 0, .slice a (exportN exporter l ctx m).length cap]) (by simp [results, Tryz.results76, go_sem, c0, c1]) rfl ⟨_, rfl, ?_, (BW.setCell (Nat.le_refl _) _).setCell (Nat.le_refl _) _⟩
      exact ((ho.set hz.out _).set hz.out _).lower (Nat.le_of_lt hz.out)
    · rw [show exC exporter l ctx n = labelC l ctx n by simp [exC, h1], show exL exporter l ctx n = [] by simp [exL, exC, h1, hc]]
      have KF : Hid (∀ w, Calls Tryz.prog 128 #[.string (strB l), .slice p2 ctx.length q2, .int .i64 n] w fun e w' => e = .returned (.int .i64 (labelC l ctx n)) ∧ w' = w) := fun w => labelFault_c p2 q2 l ctx n w hl
      generalize labelC l ctx n = c at *
      have cz1 : (c != 0) = true := by rw [bne_iff_ne]; exact hc
      clear hc hr hr2
      go_enter Tryz.func76, Tryz.ntmps76
      go_wp2_with fail
      refine (isKey_c p q exporter _).mono ?_
      rintro e w' ⟨rfl, hw⟩
      subst hw
      rw [h1]
      go_wp2_with fail
      refine (KF.out _).mono ?_
      rintro e w' ⟨rfl, hw⟩
      subst hw
      go_wp2
      exact bodyPost_ret (v := .agg #[.int .i64 c, .slice none 0 0]) (by simp [results, Tryz.results76, go_sem]) rfl ⟨_, rfl, Own_nil _ _, alloc_below _ _⟩
end Go.Proofs.YtflhoefocjmihaaGreatDoor

/- Signatures in a map whose keys are structs, in the program: what a key is (keyV), that two keys of one reading are one; signedAt, signedBy, CheckSign. What was there stays. -/
namespace Go.Proofs.YtflhoefocjmihaaGreatDoor
open Go.ChangeShapes Go.WideShapes Go.ChangeAt Go.RowKit

def keyL (p c : Int) (d : List UInt8) : List Value := .int .i64 p :: .int .i64 c :: d.map u8v
def keyV (p c : Int) (d : List UInt8) : Value := .agg (keyL p c d).toArray
theorem u8v_inj {a b : UInt8} (h : u8v a = u8v b) : a = b := by
  unfold u8v at h
  injection h with _ h
  exact UInt8.toNat_inj.1 (by omega)
theorem map_u8v_inj : ∀ {d e : List UInt8}, d.map u8v = e.map u8v → d = e
  | [], [], _ => rfl
  | [], _ :: _, h => by simp at h
  | _ :: _, [], h => by simp at h
  | a :: d, b :: e, h => by
    simp only [List.map_cons, List.cons.injEq] at h
    rw [u8v_inj h.1, map_u8v_inj h.2]
theorem keyV_inj {p q c f : Int} {d e : List UInt8} (h : keyV p c d = keyV q f e) : p = q ∧ c = f ∧ d = e := by
  injection h with h
  have h2 : keyL p c d = keyL q f e := by simpa using congrArg Array.toList h
  simp only [keyL, List.cons.injEq, Value.int.injEq, true_and] at h2
  exact ⟨h2.1, h2.2.1, map_u8v_inj h2.2.2⟩
theorem mapM_some {α β : Type} {f : α → Option β} : ∀ {l : List α}, (∀ x ∈ l, ∃ y, f x = some y) → ∃ ys, l.mapM f = some ys
  | [], _ => ⟨[], rfl⟩
  | a :: l, h => by
    obtain ⟨y, hy⟩ := h a (List.mem_cons_self ..)
    obtain ⟨ys, hys⟩ := mapM_some (l := l) (fun x hx => h x (List.mem_cons_of_mem _ hx))
    exact ⟨y :: ys, by simp [List.mapM_cons, hy, hys]⟩
theorem keyLits_int {n : Nat} {t : TypeId} {q : IntKind} {a : Int} (ht : Tryz.prog.underlying t = some (.int q)) (ha : (Lit.int q a).wf = true) : Tryz.prog.keyLits (n + 1) t [.int q a] = some [.int q a] := by
  simp [Program.keyLits, ht, ha]
theorem signedCells : Tryz.prog.cellsOf 131 = 34 := by kernel_rfl
theorem arrCells : Tryz.prog.cellsOf 129 = 32 := by kernel_rfl
theorem u8Cells : Tryz.prog.cellsOf 5 = 1 := by kernel_rfl
theorem i64Cells : Tryz.prog.cellsOf 2 = 1 := by kernel_rfl
theorem signedType : Tryz.prog.keyType 131 = true := by kernel_rfl
theorem signedLaid : laidOutB Tryz.prog = true := by kernel_rfl
theorem signedLaw : Go.Maps.Keyed Tryz.prog 131 := Go.Maps.Keyed.of_law (deep_law_gate signedLaid (of_decide_eq_true (by kernel_rfl)) (of_decide_eq_true (by kernel_rfl)) signedType (by kernel_rfl))
theorem wf_u8 (x : UInt8) : (Lit.int .u8 (x.toNat : Int)).wf = true := by
  have h := x.toNat_lt
  have h1 : IntKind.u8.min = 0 := by kernel_rfl
  have h2 : IntKind.u8.max = 255 := by kernel_rfl
  simp only [Lit.wf, h1, h2, Bool.and_eq_true, decide_eq_true_eq]
  omega
theorem keyLits_arr {n : Nat} {d : List UInt8} (hd : d.length = 32) : ∃ ls, Tryz.prog.keyLits (n + 2) 129 (d.map u8v) = some ls := by
  unfold Program.keyLits
  rw [Tryz.underlying129]
  simp only [List.length_map, hd, arrCells, if_true, u8Cells, Nat.mul_one]
  obtain ⟨ys, hys⟩ := mapM_some (l := List.range 32) (f := fun i => Tryz.prog.keyLits (n + 1) 5 (((d.map u8v).drop i).take 1)) (fun i hi => by
    have hi' : i < d.length := by rw [hd]; exact List.mem_range.1 hi
    rw [List.drop_eq_getElem_cons (by simpa using hi'), List.take_succ_cons, List.take_zero, List.getElem_map]
    exact ⟨_, keyLits_int Tryz.underlying5 (wf_u8 d[i])⟩)
  exact ⟨ys.flatten, by rw [hys]; rfl⟩
set_option maxRecDepth 4000 in
theorem signed_key {p c : Int} {d : List UInt8} (hp : (Lit.int .i64 p).wf = true) (hc : (Lit.int .i64 c).wf = true) (hd : d.length = 32) : ∃ kl, keyOf Tryz.prog 131 (keyV p c d) = some kl := by
  obtain ⟨m, hm⟩ : ∃ m, Tryz.prog.types.size = m + 2 := ⟨Tryz.prog.types.size - 2, by kernel_rfl⟩
  obtain ⟨ls, hls⟩ := keyLits_arr (n := m) hd
  unfold keyOf
  rw [Tryz.underlying131]
  have hf : (keyV p c d).formed Tryz.prog 131 = true := by
    unfold keyV Value.formed
    rw [Tryz.underlying131, signedCells]
    simp [keyL, hd]
  simp only [signedType, hf, Bool.and_self, if_true]
  have e : Tryz.prog.keyLits (Tryz.prog.types.size + 1) 131 (keyL p c d) = some ([.int .i64 p] ++ ([.int .i64 c] ++ (ls ++ []))) := by
    unfold Program.keyLits
    rw [Tryz.underlying131]
    have hl : (keyL p c d).length = 34 := by simp [keyL, hd]
    have hnm : (#[({ name := "place", type := 2, offset := 0, embedded := false, tag := "", pkgPath := "loop.example/g00375/impl", byteOffset := 0 } : Field), { name := "cert", type := 2, offset := 1, embedded := false, tag := "", pkgPath := "loop.example/g00375/impl", byteOffset := 8 }, { name := "digest", type := 129, offset := 2, embedded := false, tag := "", pkgPath := "loop.example/g00375/impl", byteOffset := 16 }].all (·.name != "_")) = true := by kernel_rfl
    simp only [hl, signedCells, hnm, and_self, if_true]
    simp only [List.mapM_cons, List.mapM_nil, i64Cells, arrCells]
    have k1 : Tryz.prog.keyLits Tryz.prog.types.size 2 (((keyL p c d).drop 0).take 1) = some [.int .i64 p] := by
      rw [hm]; exact keyLits_int Tryz.underlying2 hp
    have k2 : Tryz.prog.keyLits Tryz.prog.types.size 2 (((keyL p c d).drop 1).take 1) = some [.int .i64 c] := by
      rw [hm]; exact keyLits_int Tryz.underlying2 hc
    have k3 : Tryz.prog.keyLits Tryz.prog.types.size 129 (((keyL p c d).drop 2).take 32) = some ls := by
      rw [hm, show ((keyL p c d).drop 2).take 32 = d.map u8v by simp only [keyL, List.drop_succ_cons, List.drop_zero]; exact List.take_of_length_le (by rw [List.length_map, hd]; exact Nat.le_refl _)]; exact hls
    rw [k1, k2, k3]
    simp
  rw [show (keyV p c d).cells.toList = keyL p c d by simp [keyV, Value.cells], e]
  exact ⟨_, rfl⟩
def zK : List Value := keyL 0 0 (zs 32)
theorem keyL_len {p c : Int} {d : List UInt8} (hd : d.length = 32) : (keyL p c d).length = 34 := by simp [keyL, hd]
theorem wpList_build_two {P : Program} {ops : Array Oper} {rest : List Oper} {o : Oper} {a : Act} {w : World} {Q : Exit → Act → World → Prop} (hgd : o.guard = none) (t : TypeId) (x y : Operand) (ho : o.op = .build t #[(0, x), (1, y)]) (va vb : Value) (hx : a.eval x = va) (hy : a.eval y = vb) (cells : Array Value)
    (hb : P.built t [(0, va), (1, vb)] = some cells) (h : wpList P ops Q rest (a.put o.dst (.agg cells)) w) : wpList P ops Q (o :: rest) a w := by
  subst hx hy
  exact wpList_build hgd t _ ho (by simp [hb]) (by simpa [hb] using h)
theorem zeroSigned (w : World) : (zeroValue 131).run Tryz.prog w = .ok (.agg zK.toArray) w := by kernel_rfl
theorem builtSigned (p c : Int) : Tryz.prog.built 131 [(0, .int .i64 p), (1, .int .i64 c)] = some (keyL p c (zs 32)).toArray := by kernel_rfl
theorem sizeSigned : (Tryz.prog.info? 131).map (·.size) = some 34 := by kernel_rfl
theorem sizeU8 : (Tryz.prog.info? 5).map (·.size) = some 1 := by kernel_rfl
theorem keyL_one {p c : Int} {d : List UInt8} : (keyL p c d).toArray.all (·.oneCell') = true := by
  simp [keyL, Value.oneCell', u8v]
theorem spliceK {p c : Int} {d : List UInt8} (hd : d.length = 32) : (keyL p c (zs 32)).toArray.toList.take 2 ++ (d.map u8v ++ (keyL p c (zs 32)).toArray.toList.drop (2 + (d.map u8v).length)) = keyL p c d := by
  simp [keyL, hd, zs]
set_option maxRecDepth 4000 in
set_option maxHeartbeats 1000000 in
theorem signedAt_c (place cert : Int) (d : List UInt8) (p : Option Addr) (q : Nat) (w : World) (hr : Rd w p q d) (hd : d.length = 32) :
    Calls Tryz.prog 90 #[.int .i64 place, .int .i64 cert, .slice p d.length q] w fun e w' => e = .returned (keyV place cert d) ∧ Below w.heap.size w w' := by
  obtain ⟨ad, rfl, hsrc⟩ := hr.addr (by omega)
  have B1 := alloc_below w (.cells zK.toArray 131)
  have HS : Hid (∀ V : World, Below w.heap.size w V → ∀ j v, (d.map u8v)[j]? = some v → V.cell? (ad.add j) = some v) := fun V hV j v hj => by
    obtain ⟨ad2, e2, h2⟩ := (hr.keep hV).addr (by omega)
    cases e2
    exact h2 j v hj
  have HZ : Hid (zK.toArray.size = (34 : Nat)) := by show _ = _; simp [zK, keyL, zs]
  have HD : Hid (d.length = 32) := hd
  have h34 : Hid (∀ (p c : Int) (d : List UInt8), d.length = 32 → (Tryz.prog.info? 131).map (·.size) = some (keyL p c d).toArray.size) := fun p c d h => by rw [sizeSigned]; simp [keyL, h]
  have hz32 : Hid ((zs 32).length = 32) := by show _ = _; simp [zs]
  have R := (Arr.new w zK 131).old _ (.cells zK.toArray 131)
  have X := Arr.new (w.alloc (.cells zK.toArray 131)) zK 131
  rw [size_alloc] at X
  have B2 := Below.mk B1 (.cells zK.toArray 131)
  have X2 := X.row (keyL place cert (zs 32))
  have R2 := R.rowOther (k := w.heap.size + 1) (by omega) (keyL place cert (zs 32)).toArray
  have B3 := Below.row B2 (g := w.heap.size + 1) (by omega) (keyL place cert (zs 32)).toArray
  have X4 := X2.row (keyL place cert d)
  have R4 := R2.rowOther (k := w.heap.size + 1) (by omega) (keyL place cert d).toArray
  have B4 := Below.row B3 (g := w.heap.size + 1) (by omega) (keyL place cert d).toArray
  have R5 := R4.row (keyL place cert d)
  have B5 := Below.row B4 (g := w.heap.size) (Nat.le_refl _) (keyL place cert d).toArray
  have HM : Hid ((d.map u8v).length = Nat.min 32 32) := by show _ = _; rw [List.length_map, hd]; rfl
  rw [hd]
  clear hr hd hsrc
  go_enter Tryz.func90, Tryz.ntmps90
  go_wp2_with (first
    | refine wpList_alloc_arr rfl 131 rfl zK.toArray zeroSigned w.heap.size rfl ?_
    | refine wpList_alloc_arr rfl 131 rfl zK.toArray zeroSigned (w.heap.size + 1) (size_alloc _ _) ?_
    | refine wpList_build_two rfl 131 _ _ rfl _ _ rfl rfl _ (builtSigned place cert) ?_
    | refine wpList_store_row rfl 131 _ _ rfl (w.heap.size + 1) (keyL place cert (zs 32)).toArray rfl rfl 131 zK.toArray X (h34.out _ _ _ hz32.out) (by simp [zK, keyL]) keyL_one ?_
    | (refine wpList_copy_own rfl (.tmp 12) (.tmp 13) 22 22 rfl 5 Tryz.underlying22 sizeU8 (w.heap.size + 1) 2 32 32 ad 32 q rfl rfl (keyL place cert (zs 32)).toArray 131 X2 (d.map u8v) HM.out (HS.out _ B3) (by rw [HM.out]; simp [keyL, zs]) (by intro v hv; obtain ⟨b, -, rfl⟩ := List.mem_map.1 hv; rfl) ?_; rw [spliceK HD.out])
    | refine wpList_load_row rfl 131 (.tmp 7) rfl (w.heap.size + 1) rfl 131 (keyL place cert d).toArray (0, 0) _ X4 Tryz.underlying131 rfl (h34.out _ _ _ HD.out) ?_
    | refine wpList_store_row rfl 131 _ _ rfl w.heap.size (keyL place cert d).toArray rfl rfl 131 zK.toArray R4 (h34.out _ _ _ HD.out) (by rw [HZ.out]; simp [keyL, HD.out]) keyL_one ?_)
  exact bodyPost_ret (v := keyV place cert d) (results_cell_row Tryz.results90 _ _ w.heap.size 131 (keyL place cert d).toArray (0, 0) _ rfl R5 Tryz.underlying131 rfl (h34.out _ _ _ HD.out)) rfl ⟨rfl, B5⟩
end Go.Proofs.YtflhoefocjmihaaGreatDoor

