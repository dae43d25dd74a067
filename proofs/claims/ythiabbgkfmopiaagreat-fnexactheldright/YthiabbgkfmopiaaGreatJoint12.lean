/- How SessionResult lies in memory, and the contracts of the laws' helpers on it (written by tools/codgen.py). -/
import Derived.Test.YthiabbgkfmopiaaGreatJoint8
import Derived.Test.YthiabbgkfmopiaaGreatSessionC
import Derived.Test.YthiabbgkfmopiaaGreatRound
import Derived.Test.YthiabbgkfmopiaaGreatJoint4
import Derived.Test.YthiabbgkfmopiaaGreatJoint7
import Derived.Test.YthiabbgkfmopiaaGreatArr
import Derived.Deep.AppendLies
import Derived.BigRegion
import Derived.Test.YthiabbgkfmopiaaGreatJoint6
import Derived.Deep.RegionWith
import Derived.Test.YthiabbgkfmopiaaGreatJoint10
import Derived.Test.YthiabbgkfmopiaaGreatJoint5
import Derived.Lib.AppendZeros
import Derived.Laws.AppendOwnNone
namespace Go.Proofs.YthiabbgkfmopiaaGreat
open Go.ChangeShapes Go.WideShapes Go.ChangeAt Go.RowKit

abbrev SessionResultD := Int × Int × SessionD
def sessionResultC : Cod SessionResultD := prodC (intC .i64) (prodC (intC .i64) sessionC)
theorem sessionResult_rep {w : World} {a : SessionResultD} {vs : List Value} (h : sessionResultC.rep w a vs) : ∃ p3_1 q3_1 p3_3 q3_3 p3_4 q3_4 p3_5 q3_5, vs = [.int .i64 a.1, .int .i64 a.2.1, .slice p3_1 a.2.2.1.length q3_1, .int .i64 a.2.2.2.1, .slice p3_3 a.2.2.2.2.1.length q3_3, .slice p3_4 a.2.2.2.2.2.1.length q3_4, .slice p3_5 a.2.2.2.2.2.2.length q3_5] ∧ Rd w p3_1 q3_1 a.2.2.1 ∧ RdL bytC w p3_3 q3_3 a.2.2.2.2.1 ∧ RdL bytC w p3_4 q3_4 a.2.2.2.2.2.1 ∧ RdL holdC w p3_5 q3_5 a.2.2.2.2.2.2 := by
  obtain ⟨us0, ts0, rfl, h0, us1, ts1, rfl, h1, h2⟩ := h
  have e0 : us0 = [Value.int .i64 _] := h0
  subst e0
  have e1 : us1 = [Value.int .i64 _] := h1
  subst e1
  obtain ⟨p3_1, q3_1, p3_3, q3_3, p3_4, q3_4, p3_5, q3_5, rfl, r3_1, r3_3, r3_4, r3_5⟩ := session_rep h2
  exact ⟨p3_1, q3_1, p3_3, q3_3, p3_4, q3_4, p3_5, q3_5, rfl, r3_1, r3_3, r3_4, r3_5⟩
theorem sessionResult_mk {w : World} {a : SessionResultD} {p3_1 : Option Addr} {q3_1 : Nat} {p3_3 : Option Addr} {q3_3 : Nat} {p3_4 : Option Addr} {q3_4 : Nat} {p3_5 : Option Addr} {q3_5 : Nat} (r3_1 : Rd w p3_1 q3_1 a.2.2.1) (r3_3 : RdL bytC w p3_3 q3_3 a.2.2.2.2.1) (r3_4 : RdL bytC w p3_4 q3_4 a.2.2.2.2.2.1) (r3_5 : RdL holdC w p3_5 q3_5 a.2.2.2.2.2.2) : sessionResultC.rep w a [.int .i64 a.1, .int .i64 a.2.1, .slice p3_1 a.2.2.1.length q3_1, .int .i64 a.2.2.2.1, .slice p3_3 a.2.2.2.2.1.length q3_3, .slice p3_4 a.2.2.2.2.2.1.length q3_4, .slice p3_5 a.2.2.2.2.2.2.length q3_5] := ⟨[.int .i64 a.1], _, rfl, rfl, ⟨[.int .i64 a.2.1], _, rfl, rfl, (session_mk r3_1 r3_3 r3_4 r3_5)⟩⟩
def sessionResultT (a : SessionResultD) : Nat := sessionT a.2.2
def sessionResultM (a : SessionResultD) (m : Nat) : SessionResultD := (a.1, a.2.1, sessionM a.2.2 m)

def sessionResultN (a : SessionResultD) : Nat := sessionN a.2.2
theorem sessionResultT_le (a : SessionResultD) : sessionResultT a ≤ 8 * sessionResultN a := by
  have h2 := sessionT_le a.2.2
  unfold sessionResultT sessionResultN
  omega






end Go.Proofs.YthiabbgkfmopiaaGreat

/- The contracts of MixRound and of what it calls besides a round, in the specification and in the program: both answer mixCode and mixList, at every argument. -/
namespace Go.Proofs.YthiabbgkfmopiaaGreat
open Go.ChangeShapes Go.WideShapes Go.ChangeAt Go.RowKit

def isW (v : Int) : Bool := inB v 0 4294967295
def mixOk (l : List Int) (word key : Int) : Bool := l.all isW && isW word && isW key
def s8 (l : List Int) : S8 := ⟨(atI l 0).toNat, (atI l 1).toNat, (atI l 2).toNat, (atI l 3).toNat, (atI l 4).toNat, (atI l 5).toNat, (atI l 6).toNat, (atI l 7).toNat⟩
def mixCode (l : List Int) (word key : Int) : Int := if l.length = 8 then (if mixOk l word key then 0 else 3) else 1
def mixList (l : List Int) (word key : Int) : List Int := if l.length = 8 then (if mixOk l word key then (roundN (s8 l) word.toNat key.toNat).list.map Int.ofNat else []) else []
theorem mixList_len (l : List Int) (word key : Int) : (mixList l word key).length ≤ 8 := by
  unfold mixList; split
  · split <;> simp [S8.list]
  · simp
theorem isW_at {l : List Int} (h : l.all isW = true) (i : Nat) : 0 ≤ atI l i ∧ atI l i ≤ 4294967295 := by
  unfold atI
  rw [List.getD_eq_getElem?_getD]
  cases e : l[i]? with
  | none => simp
  | some x =>
    have h2 := (List.all_eq_true.1 h) x (List.mem_of_getElem? e)
    simpa [isW, inB] using h2
theorem all_of_at {l : List Int} (h : ∀ j, j < l.length → isW (atI l j) = true) : l.all isW = true := by
  rw [List.all_eq_true]
  intro x hx
  obtain ⟨i, hi, rfl⟩ := List.mem_iff_getElem.1 hx
  rw [← atI_get hi]; exact h i hi
theorem not_all_at {l : List Int} {j : Nat} (hj : j < l.length) (h : isW (atI l j) = false) : l.all isW = false := by
  rw [List.all_eq_false]
  exact ⟨l[j], List.getElem_mem hj, by rw [← atI_get hj, h]; simp⟩
theorem partI_arr (l : List Int) (k : Nat) (h : k < l.length) : (partI l l.length k).set k (.int .i64 (atI l k)) = partI l l.length (k + 1) := partI_set l k h

theorem i64_of_l {l : List Int} (h : l.length = 8) (ha : l.all isW = true) : (l.map i64z).toArray = (s8 l).i64 := by
  have e := fun i => Int.toNat_of_nonneg (isW_at ha i).1
  have e0 := e 0; have e1 := e 1; have e2 := e 2; have e3 := e 3; have e4 := e 4; have e5 := e 5; have e6 := e 6; have e7 := e 7
  unfold S8.i64 s8
  simp only [e0, e1, e2, e3, e4, e5, e6, e7]
  match l, h with
  | [a, b, c, d, e, f, g, q], _ => rfl
theorem s8_ok {l : List Int} (ha : l.all isW = true) : (s8 l).ok := by
  have e : ∀ i, (atI l i).toNat < 4294967296 := fun i => by have := isW_at ha i; omega
  exact ⟨e 0, e 1, e 2, e 3, e 4, e 5, e 6, e 7⟩
theorem isW_nat {v : Int} (h : isW v = true) : ∃ n : Nat, v = n ∧ n < 4294967296 := by
  simp [isW, inB] at h
  exact ⟨v.toNat, by omega, by omega⟩


def u32z (z : Int) : Value := .int .u32 z
theorem u32z_at {l : List Int} {i : Nat} (h : i < l.length) : (l.map u32z)[i]? = some (.int .u32 (atI l i)) := by simp [u32z, atI, h]
theorem u32_of_l {l : List Int} (h : l.length = 8) (ha : l.all isW = true) : (l.map u32z).toArray = (s8 l).u32 := by
  have e := fun i => Int.toNat_of_nonneg (isW_at ha i).1
  have e0 := e 0; have e1 := e 1; have e2 := e 2; have e3 := e 3; have e4 := e 4; have e5 := e 5; have e6 := e 6; have e7 := e 7
  unfold S8.u32 s8
  simp only [e0, e1, e2, e3, e4, e5, e6, e7]
  match l, h with
  | [a, b, c, d, e, f, g, q], _ => rfl



theorem allW_nat {ws : List Nat} (h : Words ws) : (ws.map Int.ofNat).all isW = true := by
  rw [List.all_eq_true]
  intro x hx
  obtain ⟨n, hn, rfl⟩ := List.mem_map.1 hx
  have := h n hn
  simp [isW, inB]
  omega
theorem S8.words {s : S8} (h : s.ok) : Words s.list := by
  intro x hx
  simp only [S8.list, List.mem_cons, List.not_mem_nil, or_false] at hx
  obtain ⟨h1, h2, h3, h4, h5, h6, h7, h8⟩ := h
  rcases hx with rfl | rfl | rfl | rfl | rfl | rfl | rfl | rfl <;> assumption

end Go.Proofs.YthiabbgkfmopiaaGreat

/- The contracts of the words of a block: spec.l2Spread and impl.spread answer spreadN of 64 bytes. What was there stays. -/
namespace Go.Proofs.YthiabbgkfmopiaaGreat
open Go.ChangeShapes Go.WideShapes Go.ChangeAt Go.RowKit

/-- Words, then zeros, 64 in all. -/
def fill64 (f : Nat → Value) (z : Value) (ws : List Nat) : List Value := ws.map f ++ List.replicate (64 - ws.length) z
theorem fill64_at (f : Nat → Value) (z : Value) {ws : List Nat} {i : Nat} (h : i < ws.length) : (fill64 f z ws)[i]? = some (f (ws.getD i 0)) := by
  unfold fill64
  rw [List.getElem?_append_left (by simpa using h)]
  simp [h]
theorem fill64_zero (f : Nat → Value) (z : Value) {ws : List Nat} {i : Nat} (h : ws.length ≤ i) (h2 : i < 64) : (fill64 f z ws)[i]? = some z := by
  unfold fill64
  rw [List.getElem?_append_right (by simpa using h), List.getElem?_replicate, if_pos (by simp; omega)]
theorem fill64_set (f : Nat → Value) (z : Value) (ws : List Nat) (x : Nat) (h : ws.length < 64) : (fill64 f z ws).set ws.length (f x) = fill64 f z (ws ++ [x]) := by
  unfold fill64
  rw [List.set_append_right _ _ (by simp), List.length_map, Nat.sub_self, show 64 - ws.length = (64 - (ws ++ [x]).length) + 1 by simp; omega, List.replicate_succ, List.set_cons_zero, List.map_append, List.append_assoc]
  rfl
theorem fill64_all (f : Nat → Value) (z : Value) {ws : List Nat} (h : ws.length = 64) : fill64 f z ws = ws.map f := by simp [fill64, h]
theorem fill64_len (f : Nat → Value) (z : Value) {ws : List Nat} (h : ws.length ≤ 64) : (fill64 f z ws).length = 64 := by simp [fill64]; omega

/-- The first words of a block, one more each round. -/
def firstK (bs : List UInt8) (k : Nat) : List Nat := (List.range k).map (word4 bs)
theorem firstK_len (bs : List UInt8) (k : Nat) : (firstK bs k).length = k := by simp [firstK]
theorem firstK_succ (bs : List UInt8) (k : Nat) : firstK bs (k + 1) = firstK bs k ++ [word4 bs k] := by simp [firstK, List.range_succ]
theorem firstK_all (bs : List UInt8) : firstK bs 16 = first16 bs := rfl

/-- The words that the program has gathered behind k bytes. -/
def accN (bs : List UInt8) (k j : Nat) : Nat := getB (((bs.take k).drop (4 * j)).take 4)
def accW (bs : List UInt8) (k : Nat) : List Value := (List.range 64).map (fun j => u32v (accN bs k j))
theorem accW_len (bs : List UInt8) (k : Nat) : (accW bs k).length = 64 := by simp [accW]
theorem accW_at (bs : List UInt8) (k : Nat) {j : Nat} (h : j < 64) : (accW bs k)[j]? = some (.int .u32 (accN bs k j : Nat)) := by simp [accW, u32v, h]
theorem accN_other (bs : List UInt8) (k j : Nat) (hk : k < bs.length) (h : j ≠ k / 4) : accN bs (k + 1) j = accN bs k j := by
  unfold accN
  congr 1
  by_cases h1 : k < 4 * j
  · rw [List.drop_eq_nil_of_le (by simp; omega), List.drop_eq_nil_of_le (by simp; omega)]
  · have h2 : 4 * j + 4 ≤ k := by omega
    rw [List.take_succ_eq_append_getElem hk, List.drop_append_of_le_length (by simp; omega), List.take_append_of_le_length (by simp; omega)]
theorem accN_same (bs : List UInt8) (k : Nat) (hk : k < bs.length) : ((accN bs (k + 1) (k / 4) : Nat) : Int) = (accN bs k (k / 4) : Int) * 256 + at8 bs k := by
  unfold accN
  have e1 : ((bs.take k).drop (4 * (k / 4)) ++ [bs[k]]).take 4 = (bs.take k).drop (4 * (k / 4)) ++ [bs[k]] := List.take_of_length_le (by simp; omega)
  have e2 : ((bs.take k).drop (4 * (k / 4))).take 4 = (bs.take k).drop (4 * (k / 4)) := List.take_of_length_le (by simp; omega)
  rw [List.take_succ_eq_append_getElem hk, List.drop_append_of_le_length (by simp; omega), e1, e2, getB_snoc, at8_get hk]
  omega
theorem accN_lt (bs : List UInt8) (k : Nat) : accN bs k (k / 4) < 16777216 := by
  unfold accN
  refine Nat.lt_of_lt_of_le (getB_lt _) (Nat.le_trans (Nat.pow_le_pow_right (by decide) (show _ ≤ 3 by simp; omega)) (by decide))
theorem accW_set (bs : List UInt8) (k : Nat) (hk : k < bs.length) : (accW bs k).set (k / 4) (.int .u32 ((accN bs k (k / 4) : Int) * 256 + at8 bs k)) = accW bs (k + 1) := by
  rw [← accN_same bs k hk]
  apply List.ext_getElem?
  intro i
  rw [List.getElem?_set]
  by_cases h : k / 4 = i
  · subst h
    by_cases h2 : k / 4 < 64
    · rw [accW_at bs (k + 1) h2]; simp [accW_len, h2]
    · simp [accW, h2]
  · rw [if_neg h]
    by_cases h2 : i < 64
    · rw [accW_at bs k h2, accW_at bs (k + 1) h2, accN_other bs k i hk (fun e => h e.symm)]
    · simp [accW, h2]
theorem accW_zero (bs : List UInt8) : accW bs 0 = zU := by
  apply List.ext_getElem?
  intro i
  by_cases h : i < 64
  · rw [accW_at bs 0 h, zU, List.getElem?_replicate, if_pos h]; simp [accN, getB]
  · rw [List.getElem?_eq_none (by rw [accW_len]; omega), List.getElem?_eq_none (by rw [zU_len]; omega)]
theorem accW_all (bs : List UInt8) (hl : bs.length = 64) : accW bs 64 = fill64 u32v (.int .u32 0) (first16 bs) := by
  apply List.ext_getElem?
  intro i
  by_cases h : i < 64
  · rw [accW_at bs 64 h]
    by_cases h2 : i < 16
    · rw [fill64_at _ _ (by rw [first16_len]; exact h2)]
      simp [u32v, accN, first16, word4, h2, List.take_of_length_le (Nat.le_of_eq hl)]
    · rw [fill64_zero _ _ (by rw [first16_len]; omega) h]
      have e : accN bs 64 i = 0 := by
        unfold accN
        rw [List.drop_eq_nil_of_le (by simp; omega)]; rfl
      rw [e]; rfl
  · rw [List.getElem?_eq_none (by rw [accW_len]; omega), List.getElem?_eq_none (by rw [fill64_len _ _ (by rw [first16_len]; omega)]; omega)]

end Go.Proofs.YthiabbgkfmopiaaGreat

/- slices.Grow of nothing and slices.Concat of two lists of bytes in the program: the cells of both, one behind the other, in a row of their own. What was there stays. -/
namespace Go.Proofs.YthiabbgkfmopiaaGreat
open Go.ChangeShapes Go.WideShapes Go.ChangeAt Go.RowKit

theorem blksC_mono : blksC.Mono := listC_mono bytC_mono
/-- append(s, x...) where s lies in a row of its own, and the cells of x are known. -/
theorem wpList_append_rawB {w : World} {ops : Array Oper} {rest : List Oper} {o : Oper} {a : Act} {Q : Exit → Act → World → Prop} (hgd : o.guard = none) (s x : Operand)
    (ho : o.op = .call { callee := .builtin .append, args := #[s, x], argTypes := #[26, 26] })
    (B : Nat) (v : Value) (n : Nat) (xs : List Value) (hs : a.eval s = v) (hown : w.ownsRow B 51 1 v n xs) (p : Option Addr) (q m : Nat) (ys : List Value) (hx : a.eval x = .slice p m q) (hr : Raw w p q m 1 ys) (h1 : ∀ u ∈ ys, u.oneCell' = true)
    (hl : n + m ≤ 1000000) (hB : B ≤ w.heap.size)
    (h : ∀ v' w', w'.ownsRow B 51 1 v' (n + m) (xs ++ ys) → w.grownBy w' v.ownBlock → wpList Tryz.prog ops Q rest (a.put o.dst v') w') : wpList Tryz.prog ops Q (o :: rest) a w := by
  obtain ⟨i0, hi, hz0, hz1, hz2⟩ := info_parts infoBlk
  cases p with
  | none =>
    obtain ⟨rfl, rfl, rfl⟩ := hr.none_len
    refine wpList_append_own_none hgd s x _ ho B _ i0 1 Tryz.underlying26 hi v n _ hs hown hx ?_
    exact h v w (by rw [List.append_nil]; exact hown) (World.grownBy.refl _ _)
  | some ad =>
    refine wpList_append_own _ hgd s x _ ho B 51 i0 (.slice none 0 0) 1 24 Tryz.underlying26 hi hz0 hz1 hz2 rfl (by decide) v n xs hs hown ad m q ys hx hr.1 ?_ h1 (by unfold maxLen; omega) (by omega) hB fun v' w' h2 h3 _ => h v' w' h2 h3
    intro j u hu
    have hj : j < m * 1 := by rw [← hr.1]; exact (List.getElem?_eq_some_iff.1 hu).1
    obtain ⟨b, off, e, hc⟩ := hr.2.2.2.2 (by omega)
    cases e
    rw [addr_add]
    exact hc j u hu
set_option maxRecDepth 4000 in
set_option maxHeartbeats 1000000 in
theorem growB_c (n : Nat) (w : World) (hn : n ≤ 1000000) :
    Calls Tryz.prog 119 #[.slice none 0 0, .int .i64 (n : Int)] w fun e w' => ∃ v, e = .returned v ∧ w'.ownsRow w.heap.size 51 1 v 0 [] ∧ Below w.heap.size w w' := by
  by_cases h0 : 0 < n
  case neg =>
    obtain rfl : n = 0 := by omega
    clear h0 hn
    go_enter Tryz.func119, Tryz.ntmps119
    go_wp2
    go_ret
    exact ⟨_, rfl, ⟨rfl, .inl ⟨rfl, rfl⟩⟩, Below.refl _ _⟩
  obtain ⟨i0, hi, hz0, hz1, hz2⟩ := info_parts infoBlk
  have hI : 0 < (n : Int) := by omega
  have hI2 : (n : Int) ≤ 1000000 := by omega
  have hr := Lib.run_append_nil_zeros (P := Tryz.prog) w 26 3 26 51 i0 (.slice none 0 0) .i64 .i64 Tryz.underlying26 Tryz.underlying3 hi hz0 n h0 (by rw [hz1]; decide) (by omega) (by rw [hz2]; omega)
  have hge := grownCap_ge w n 0 51
  have hcm : grownCap w n 0 51 ≤ maxLen := grownCap_le_maxLen w n 0 51 (by unfold maxLen; omega)
  have hown := World.ownsRow_made (base := w.heap.size) (e := 51) (size := 1) w.drew (Builtin.zeroCells (Value.cells (.slice none 0 0)) n ++ Builtin.zeroCells (Value.cells (.slice none 0 0)) (grownCap w n 0 51 - n)) (grownCap w n 0 51) (Nat.le_refl _) hcm (by
    rw [Array.size_append, size_zeroCells, size_zeroCells, ← Nat.add_mul]
    show _ * 1 = _
    congr 1
    omega)
  have hb : Below w.heap.size w (w.drew.alloc (.cells (Builtin.zeroCells (Value.cells (.slice none 0 0)) n ++ Builtin.zeroCells (Value.cells (.slice none 0 0)) (grownCap w n 0 51 - n)) 51)) := Below.mk (Below.refl _ _).drew _
  generalize w.drew.alloc (.cells (Builtin.zeroCells (Value.cells (.slice none 0 0)) n ++ Builtin.zeroCells (Value.cells (.slice none 0 0)) (grownCap w n 0 51 - n)) 51) = W at *
  generalize grownCap w n 0 51 = cap at *
  have hcap : (cap : Int) ≤ 9223372036854775807 := by unfold maxLen at hcm; omega
  clear hi hz0 hz1 hz2 hge
  go_enter Tryz.func119, Tryz.ntmps119
  go_wp2_with (at_builtin; refine Lib.wpList_append_run _ rfl _ _ _ _ rfl _ _ rfl rfl _ _ hr ?_)
  go_ret
  exact ⟨_, rfl, hown, hb⟩
set_option maxRecDepth 4000 in
set_option maxHeartbeats 2000000 in
theorem concatB_c (g n1 n2 q1 q2 : Nat) (p1 p2 : Option Addr) (xs ys : List Value) (w : World) (A : Arr w g 26 [.slice p1 n1 q1, .slice p2 n2 q2]) (r1 : Raw w p1 q1 n1 1 xs) (r2 : Raw w p2 q2 n2 1 ys) (o1 : ∀ u ∈ xs, u.oneCell' = true) (o2 : ∀ u ∈ ys, u.oneCell' = true) (hn : n1 + n2 ≤ 1000000) :
    Calls Tryz.prog 102 #[.slice (some ⟨g, 0, none⟩) 2 2] w fun e w' => ∃ v, e = .returned v ∧ w'.ownsRow w.heap.size 51 1 v (n1 + n2) (xs ++ ys) ∧ Below w.heap.size w w' := by
  have HR1 : Hid (Raw w p1 q1 n1 1 xs) := r1
  have HR2 : Hid (Raw w p2 q2 n2 1 ys) := r2
  have HO1 : Hid (∀ u ∈ xs, u.oneCell' = true) := o1
  have HO2 : Hid (∀ u ∈ ys, u.oneCell' = true) := o2
  have c0 := (A.cell 0).trans (show _ = some _ from rfl)
  have c1 := (A.cell 1).trans (show _ = some _ from rfl)
  have hn1 : (n1 : Int) ≤ 1000000 := by omega
  have hn2 : (n2 : Int) ≤ 1000000 := by omega
  have hn3 : (n1 : Int) + (n2 : Int) ≤ 1000000 := by omega
  have KG := fun w => growB_c (n1 + n2) w hn
  have HN : Hid (n1 + n2 ≤ 1000000) := hn
  clear r1 r2 o1 o2 hn
  go_enter Tryz.func102, Tryz.ntmps102
  go_wp2_with fail
  go_loopw [3, 11] (fun sz i wr => ((i = .int .i64 0 ∧ sz = .int .i64 0) ∨ (i = .int .i64 1 ∧ sz = .int .i64 (n1 : Int)) ∨ (i = .int .i64 2 ∧ sz = .int .i64 ((n1 : Int) + (n2 : Int)))) ∧ wr = w)
    (fun _ i _ => 2 - (intOf i).toNat)
  case atStart => exact ⟨.inl ⟨rfl, rfl⟩, rfl⟩
  case round =>
    obtain ⟨⟨rfl, rfl⟩ | ⟨rfl, rfl⟩ | ⟨rfl, rfl⟩, rfl⟩ := hrel
    · go_wp2_with fail
      go_roundw
      case rel => exact ⟨.inr (.inl ⟨by go_num, by go_num⟩), trivial⟩
      case measure => simp [intOf]
    · go_wp2_with fail
      go_roundw
      case rel => exact ⟨.inr (.inr ⟨by go_num, by go_num⟩), trivial⟩
      case measure => simp [intOf]
    · go_wp2_with fail
      have kg := KG wr
      rw [Int.natCast_add] at kg
      have HG : Hid (g < wr.heap.size) := A.lt
      refine kg.mono ?_
      rintro e w1 ⟨v1, rfl, hown, hb1⟩
      obtain ⟨p1g, q1g, rfl, -⟩ := ownsRow_raw hown
      replace A := A.stay hb1
      obtain ⟨w3, e3⟩ : ∃ v, v = wr := ⟨_, rfl⟩
      subst e3
      clear kg KG c0 c1
      go_wp2_with fail
      go_loopw [6, 27] (fun v i wx => ((i = .int .i64 0 ∧ wx.ownsRow w3.heap.size 51 1 v 0 []) ∨ (i = .int .i64 1 ∧ wx.ownsRow w3.heap.size 51 1 v n1 xs) ∨ (i = .int .i64 2 ∧ wx.ownsRow w3.heap.size 51 1 v (n1 + n2) (xs ++ ys))) ∧ Below w3.heap.size w3 wx ∧ Arr wx g 26 [.slice p1 n1 q1, .slice p2 n2 q2])
        (fun _ i _ => 2 - (intOf i).toNat)
      case atStart => exact ⟨.inl ⟨rfl, hown⟩, hb1, A⟩
      case round =>
        clear hown hb1 A
        obtain ⟨⟨rfl, ho⟩ | ⟨rfl, ho⟩ | ⟨rfl, ho⟩, BX, AX⟩ := hrel
        · skip
          have c := (AX.cell 0).trans (show _ = some _ from rfl)
          obtain ⟨p6, q6, rfl, r6⟩ := ownsRow_raw ho
          have HQ6 : Hid (q6 ≤ 2 ^ 63 - 1) := r6.2.2.1
          have RR := HR1.out.keep BX
          have hge : Hid (∀ k, (Value.slice p6 0 q6).ownBlock = some k → w3.heap.size ≤ k) := fun k hk => (World.ownsRow.lt ho k hk).1
          clear r6
          go_wp2_with (at_builtin; refine wpList_append_rawB rfl (.tmp 31) (.tmp 32) rfl w3.heap.size (.slice p6 0 q6) 0 [] rfl ho p1 q1 n1 xs rfl RR HO1.out (by have := HN.out; omega) BX.size ?_; intro v7 w7 ho7 hg7)
          replace BX := BX.grown hg7 BX.size (fun k hk => hge.out k hk)
          replace AX := AX.other hg7 (fun e => by have h1 := hge.out g e; have h2 := HG.out; omega)
          obtain ⟨p7, q7, rfl, r7⟩ := ownsRow_raw ho7
          clear ho hg7 RR c r7
          go_wp2_with fail
          go_roundw
          case rel => exact ⟨.inr (.inl ⟨by go_num, by rw [Nat.zero_add, List.nil_append] at ho7; first | exact ho7 | (rw [Nat.zero_add]; exact ho7)⟩), BX, AX⟩
          case measure => simp [intOf]
        · skip
          have c := (AX.cell 1).trans (show _ = some _ from rfl)
          obtain ⟨p6, q6, rfl, r6⟩ := ownsRow_raw ho
          have HQ6 : Hid (q6 ≤ 2 ^ 63 - 1) := r6.2.2.1
          have RR := HR2.out.keep BX
          have hge : Hid (∀ k, (Value.slice p6 n1 q6).ownBlock = some k → w3.heap.size ≤ k) := fun k hk => (World.ownsRow.lt ho k hk).1
          clear r6
          go_wp2_with (at_builtin; refine wpList_append_rawB rfl (.tmp 31) (.tmp 32) rfl w3.heap.size (.slice p6 n1 q6) n1 xs rfl ho p2 q2 n2 ys rfl RR HO2.out (by have := HN.out; omega) BX.size ?_; intro v7 w7 ho7 hg7)
          replace BX := BX.grown hg7 BX.size (fun k hk => hge.out k hk)
          replace AX := AX.other hg7 (fun e => by have h1 := hge.out g e; have h2 := HG.out; omega)
          obtain ⟨p7, q7, rfl, r7⟩ := ownsRow_raw ho7
          clear ho hg7 RR c r7
          go_wp2_with fail
          go_roundw
          case rel => exact ⟨.inr (.inr ⟨by go_num, ho7⟩), BX, AX⟩
          case measure => simp [intOf]
        · obtain ⟨p6, q6, rfl, r6⟩ := ownsRow_raw ho
          clear r6
          go_wp2_with fail
          go_ret
          exact ⟨_, rfl, ho, BX⟩
end Go.Proofs.YthiabbgkfmopiaaGreat

