/- Signatures in a map whose keys are structs, in the program: what a key is (keyV), that two keys of one reading are one; signedAt, signedBy, CheckSign. What was there stays. -/
import Derived.Test.YtklglpmlfboglaaSignI
import Derived.Laws.CopyOwn
import Derived.Laws.Rows
import Derived.Laws.Tables
import Derived.Maps.OwnSet
import Derived.Maps.OwnOps
import Derived.DeepKeys5
namespace Go.Proofs.Ytklglpmlfboglaa
open Go.ChangeShapes Go.WideShapes Go.ChangeAt Go.RowKit

def keyL (p c : Int) (d : List UInt8) : List Value := .int .i64 p :: .int .i64 c :: d.map u8v
def keyV (p c : Int) (d : List UInt8) : Value := .agg (keyL p c d).toArray
theorem u8v_inj {a b : UInt8} (h : u8v a = u8v b) : a = b := by
  unfold u8v at h
  injection h with _ h
  exact UInt8.toNat_inj.1 (by omega)
theorem map_u8v_inj : ∀ {d e : List UInt8}, d.map u8v = e.map u8v → d = e
  | [], [], _ => rfl
  | [], _ :: _, h => by simp at h
  | _ :: _, [], h => by simp at h
  | a :: d, b :: e, h => by
    simp only [List.map_cons, List.cons.injEq] at h
    rw [u8v_inj h.1, map_u8v_inj h.2]
theorem keyV_inj {p q c f : Int} {d e : List UInt8} (h : keyV p c d = keyV q f e) : p = q ∧ c = f ∧ d = e := by
  injection h with h
  have h2 : keyL p c d = keyL q f e := by simpa using congrArg Array.toList h
  simp only [keyL, List.cons.injEq, Value.int.injEq, true_and] at h2
  exact ⟨h2.1, h2.2.1, map_u8v_inj h2.2.2⟩
theorem mapM_some {α β : Type} {f : α → Option β} : ∀ {l : List α}, (∀ x ∈ l, ∃ y, f x = some y) → ∃ ys, l.mapM f = some ys
  | [], _ => ⟨[], rfl⟩
  | a :: l, h => by
    obtain ⟨y, hy⟩ := h a (List.mem_cons_self ..)
    obtain ⟨ys, hys⟩ := mapM_some (l := l) (fun x hx => h x (List.mem_cons_of_mem _ hx))
    exact ⟨y :: ys, by simp [List.mapM_cons, hy, hys]⟩
theorem keyLits_int {n : Nat} {t : TypeId} {q : IntKind} {a : Int} (ht : Try.prog.underlying t = some (.int q)) (ha : (Lit.int q a).wf = true) : Try.prog.keyLits (n + 1) t [.int q a] = some [.int q a] := by
  simp [Program.keyLits, ht, ha]
theorem signedCells : Try.prog.cellsOf 92 = 34 := by kernel_rfl
theorem arrCells : Try.prog.cellsOf 90 = 32 := by kernel_rfl
theorem u8Cells : Try.prog.cellsOf 5 = 1 := by kernel_rfl
theorem i64Cells : Try.prog.cellsOf 2 = 1 := by kernel_rfl
theorem signedType : Try.prog.keyType 92 = true := by kernel_rfl
theorem signedLaid : laidOutB Try.prog = true := by kernel_rfl
theorem signedLaw : Go.Maps.Keyed Try.prog 92 := Go.Maps.Keyed.of_law (deep_law_gate signedLaid (of_decide_eq_true (by kernel_rfl)) (of_decide_eq_true (by kernel_rfl)) signedType (by kernel_rfl))
theorem wf_u8 (x : UInt8) : (Lit.int .u8 (x.toNat : Int)).wf = true := by
  have h := x.toNat_lt
  have h1 : IntKind.u8.min = 0 := by kernel_rfl
  have h2 : IntKind.u8.max = 255 := by kernel_rfl
  simp only [Lit.wf, h1, h2, Bool.and_eq_true, decide_eq_true_eq]
  omega
theorem keyLits_arr {n : Nat} {d : List UInt8} (hd : d.length = 32) : ∃ ls, Try.prog.keyLits (n + 2) 90 (d.map u8v) = some ls := by
  unfold Program.keyLits
  rw [Try.underlying90]
  simp only [List.length_map, hd, arrCells, if_true, u8Cells, Nat.mul_one]
  obtain ⟨ys, hys⟩ := mapM_some (l := List.range 32) (f := fun i => Try.prog.keyLits (n + 1) 5 (((d.map u8v).drop i).take 1)) (fun i hi => by
    have hi' : i < d.length := by rw [hd]; exact List.mem_range.1 hi
    rw [List.drop_eq_getElem_cons (by simpa using hi'), List.take_succ_cons, List.take_zero, List.getElem_map]
    exact ⟨_, keyLits_int Try.underlying5 (wf_u8 d[i])⟩)
  exact ⟨ys.flatten, by rw [hys]; rfl⟩
set_option maxRecDepth 4000 in
theorem signed_key {p c : Int} {d : List UInt8} (hp : (Lit.int .i64 p).wf = true) (hc : (Lit.int .i64 c).wf = true) (hd : d.length = 32) : ∃ kl, keyOf Try.prog 92 (keyV p c d) = some kl := by
  obtain ⟨m, hm⟩ : ∃ m, Try.prog.types.size = m + 2 := ⟨Try.prog.types.size - 2, by kernel_rfl⟩
  obtain ⟨ls, hls⟩ := keyLits_arr (n := m) hd
  unfold keyOf
  rw [Try.underlying92]
  have hf : (keyV p c d).formed Try.prog 92 = true := by
    unfold keyV Value.formed
    rw [Try.underlying92, signedCells]
    simp [keyL, hd]
  simp only [signedType, hf, Bool.and_self, if_true]
  have e : Try.prog.keyLits (Try.prog.types.size + 1) 92 (keyL p c d) = some ([.int .i64 p] ++ ([.int .i64 c] ++ (ls ++ []))) := by
    unfold Program.keyLits
    rw [Try.underlying92]
    have hl : (keyL p c d).length = 34 := by simp [keyL, hd]
    have hnm : (#[({ name := "place", type := 2, offset := 0, embedded := false, tag := "", pkgPath := "loop.example/g00375/impl", byteOffset := 0 } : Field), { name := "cert", type := 2, offset := 1, embedded := false, tag := "", pkgPath := "loop.example/g00375/impl", byteOffset := 8 }, { name := "digest", type := 90, offset := 2, embedded := false, tag := "", pkgPath := "loop.example/g00375/impl", byteOffset := 16 }].all (·.name != "_")) = true := by kernel_rfl
    simp only [hl, signedCells, hnm, and_self, if_true]
    simp only [List.mapM_cons, List.mapM_nil, i64Cells, arrCells]
    have k1 : Try.prog.keyLits Try.prog.types.size 2 (((keyL p c d).drop 0).take 1) = some [.int .i64 p] := by
      rw [hm]; exact keyLits_int Try.underlying2 hp
    have k2 : Try.prog.keyLits Try.prog.types.size 2 (((keyL p c d).drop 1).take 1) = some [.int .i64 c] := by
      rw [hm]; exact keyLits_int Try.underlying2 hc
    have k3 : Try.prog.keyLits Try.prog.types.size 90 (((keyL p c d).drop 2).take 32) = some ls := by
      rw [hm, show ((keyL p c d).drop 2).take 32 = d.map u8v by simp only [keyL, List.drop_succ_cons, List.drop_zero]; exact List.take_of_length_le (by rw [List.length_map, hd]; exact Nat.le_refl _)]; exact hls
    rw [k1, k2, k3]
    simp
  rw [show (keyV p c d).cells.toList = keyL p c d by simp [keyV, Value.cells], e]
  exact ⟨_, rfl⟩
def zK : List Value := keyL 0 0 (zs 32)
theorem keyL_len {p c : Int} {d : List UInt8} (hd : d.length = 32) : (keyL p c d).length = 34 := by simp [keyL, hd]
theorem wpList_build_two {P : Program} {ops : Array Oper} {rest : List Oper} {o : Oper} {a : Act} {w : World} {Q : Exit → Act → World → Prop} (hgd : o.guard = none) (t : TypeId) (x y : Operand) (ho : o.op = .build t #[(0, x), (1, y)]) (va vb : Value) (hx : a.eval x = va) (hy : a.eval y = vb) (cells : Array Value)
    (hb : P.built t [(0, va), (1, vb)] = some cells) (h : wpList P ops Q rest (a.put o.dst (.agg cells)) w) : wpList P ops Q (o :: rest) a w := by
  subst hx hy
  exact wpList_build hgd t _ ho (by simp [hb]) (by simpa [hb] using h)
theorem zeroSigned (w : World) : (zeroValue 92).run Try.prog w = .ok (.agg zK.toArray) w := by kernel_rfl
theorem builtSigned (p c : Int) : Try.prog.built 92 [(0, .int .i64 p), (1, .int .i64 c)] = some (keyL p c (zs 32)).toArray := by kernel_rfl
theorem sizeSigned : (Try.prog.info? 92).map (·.size) = some 34 := by kernel_rfl
theorem sizeU8 : (Try.prog.info? 5).map (·.size) = some 1 := by kernel_rfl
theorem keyL_one {p c : Int} {d : List UInt8} : (keyL p c d).toArray.all (·.oneCell') = true := by
  simp [keyL, Value.oneCell', u8v]
theorem spliceK {p c : Int} {d : List UInt8} (hd : d.length = 32) : (keyL p c (zs 32)).toArray.toList.take 2 ++ (d.map u8v ++ (keyL p c (zs 32)).toArray.toList.drop (2 + (d.map u8v).length)) = keyL p c d := by
  simp [keyL, hd, zs]
set_option maxRecDepth 4000 in
set_option maxHeartbeats 1000000 in
theorem signedAt_c (place cert : Int) (d : List UInt8) (p : Option Addr) (q : Nat) (w : World) (hr : Rd w p q d) (hd : d.length = 32) :
    Calls Try.prog 61 #[.int .i64 place, .int .i64 cert, .slice p d.length q] w fun e w' => e = .returned (keyV place cert d) ∧ Below w.heap.size w w' := by
  obtain ⟨ad, rfl, hsrc⟩ := hr.addr (by omega)
  have B1 := alloc_below w (.cells zK.toArray 92)
  have HS : Hid (∀ V : World, Below w.heap.size w V → ∀ j v, (d.map u8v)[j]? = some v → V.cell? (ad.add j) = some v) := fun V hV j v hj => by
    obtain ⟨ad2, e2, h2⟩ := (hr.keep hV).addr (by omega)
    cases e2
    exact h2 j v hj
  have HZ : Hid (zK.toArray.size = (34 : Nat)) := by show _ = _; simp [zK, keyL, zs]
  have HD : Hid (d.length = 32) := hd
  have h34 : Hid (∀ (p c : Int) (d : List UInt8), d.length = 32 → (Try.prog.info? 92).map (·.size) = some (keyL p c d).toArray.size) := fun p c d h => by rw [sizeSigned]; simp [keyL, h]
  have hz32 : Hid ((zs 32).length = 32) := by show _ = _; simp [zs]
  have R := (Arr.new w zK 92).old _ (.cells zK.toArray 92)
  have X := Arr.new (w.alloc (.cells zK.toArray 92)) zK 92
  rw [size_alloc] at X
  have B2 := Below.mk B1 (.cells zK.toArray 92)
  have X2 := X.row (keyL place cert (zs 32))
  have R2 := R.rowOther (k := w.heap.size + 1) (by omega) (keyL place cert (zs 32)).toArray
  have B3 := Below.row B2 (g := w.heap.size + 1) (by omega) (keyL place cert (zs 32)).toArray
  have X4 := X2.row (keyL place cert d)
  have R4 := R2.rowOther (k := w.heap.size + 1) (by omega) (keyL place cert d).toArray
  have B4 := Below.row B3 (g := w.heap.size + 1) (by omega) (keyL place cert d).toArray
  have R5 := R4.row (keyL place cert d)
  have B5 := Below.row B4 (g := w.heap.size) (Nat.le_refl _) (keyL place cert d).toArray
  have HM : Hid ((d.map u8v).length = Nat.min 32 32) := by show _ = _; rw [List.length_map, hd]; rfl
  rw [hd]
  clear hr hd hsrc
  go_enter Try.func61, Try.ntmps61
  go_wp2_with (first
    | refine wpList_alloc_arr rfl 92 rfl zK.toArray zeroSigned w.heap.size rfl ?_
    | refine wpList_alloc_arr rfl 92 rfl zK.toArray zeroSigned (w.heap.size + 1) (size_alloc _ _) ?_
    | refine wpList_build_two rfl 92 _ _ rfl _ _ rfl rfl _ (builtSigned place cert) ?_
    | refine wpList_store_row rfl 92 _ _ rfl (w.heap.size + 1) (keyL place cert (zs 32)).toArray rfl rfl 92 zK.toArray X (h34.out _ _ _ hz32.out) (by simp [zK, keyL]) keyL_one ?_
    | (refine wpList_copy_own rfl (.tmp 12) (.tmp 13) 22 22 rfl 5 Try.underlying22 sizeU8 (w.heap.size + 1) 2 32 32 ad 32 q rfl rfl (keyL place cert (zs 32)).toArray 92 X2 (d.map u8v) HM.out (HS.out _ B3) (by rw [HM.out]; simp [keyL, zs]) (by intro v hv; obtain ⟨b, -, rfl⟩ := List.mem_map.1 hv; rfl) ?_; rw [spliceK HD.out])
    | refine wpList_load_row rfl 92 (.tmp 7) rfl (w.heap.size + 1) rfl 92 (keyL place cert d).toArray (0, 0) _ X4 Try.underlying92 rfl (h34.out _ _ _ HD.out) ?_
    | refine wpList_store_row rfl 92 _ _ rfl w.heap.size (keyL place cert d).toArray rfl rfl 92 zK.toArray R4 (h34.out _ _ _ HD.out) (by rw [HZ.out]; simp [keyL, HD.out]) keyL_one ?_)
  exact bodyPost_ret (v := keyV place cert d) (results_cell_row Try.results61 _ _ w.heap.size 92 (keyL place cert d).toArray (0, 0) _ rfl R5 Try.underlying92 rfl (h34.out _ _ _ HD.out)) rfl ⟨rfl, B5⟩
end Go.Proofs.Ytklglpmlfboglaa

