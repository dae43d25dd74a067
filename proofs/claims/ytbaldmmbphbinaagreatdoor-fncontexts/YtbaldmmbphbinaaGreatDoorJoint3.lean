/- The source of the draws in memory, with no program in it: a block that holds a code and a count; what keeps it. -/
import Derived.Test.YtbaldmmbphbinaaGreatDoorJoint1
import Derived.Laws.BytesArg
import Derived.Laws.IdiomStrings
import Derived.Test.YtbaldmmbphbinaaGreatDoorRows
import Derived.ProofKit
import Derived.OpenShut
import Derived.Deep.WholeRow
namespace Go.Proofs.YtbaldmmbphbinaaGreatDoor
open Go.RowKit

structure Src (w : World) (b : Nat) (p : Option Addr) (q : Nat) (cs : List UInt8) (n : Int) : Prop where
  loc : Loc w b [.slice p cs.length q, .int .i64 n]
  rd : Rd w p q cs
  apart : 0 < cs.length → ∀ x, p = some x → x.block < b

theorem Src.lt {w : World} {b : Nat} {p : Option Addr} {q : Nat} {cs : List UInt8} {n : Int} (h : Src w b p q cs n) : b < w.heap.size := h.loc.1.lt

theorem Rd.set {w : World} {a : Option Addr} {cap : Nat} {bs : List UInt8} (h : Rd w a cap bs) {x : Addr} (hne : 0 < bs.length → ∀ y, a = some y → y.block ≠ x.block) (u : Value) : Rd (w.setCell x u) a cap bs := by
  obtain ⟨h1, h2, h3, h4⟩ := h
  refine ⟨h1, h2, h3, fun hp => ?_⟩
  obtain ⟨b, o, rfl, hc⟩ := h4 hp
  refine ⟨b, o, rfl, fun i hi => ?_⟩
  have e : (w.setCell x u).heap[b]? = w.heap[b]? := Below.heap_setCell _ _ _ _ (hne hp _ rfl)
  rw [World.cell?_of_block (w := w) (a := ⟨b, o + i, none⟩) e, hc i hi]

theorem Rd.other {w w' : World} {a : Option Addr} {cap : Nat} {bs : List UInt8} {row : Option Nat} (h : Rd w a cap bs) (hg : w.grownBy w' row) (hne : 0 < bs.length → ∀ y, a = some y → row ≠ some y.block) : Rd w' a cap bs := by
  obtain ⟨h1, h2, h3, h4⟩ := h
  refine ⟨h1, h2, h3, fun hp => ?_⟩
  obtain ⟨b, o, rfl, hc⟩ := h4 hp
  exact ⟨b, o, rfl, fun i hi => cell_other (hc i hi) hg (hne hp ⟨b, o, none⟩ rfl)⟩

theorem Src.next {w : World} {b : Nat} {p : Option Addr} {q : Nat} {cs : List UInt8} {n : Int} (h : Src w b p q cs n) (m : Int) : Src (w.setCell ⟨b, 1, none⟩ (.int .i64 m)) b p q cs m :=
  ⟨h.loc.set1 _, h.rd.set (fun hp y hy e => by have := h.apart hp y hy; simp at e; omega) _, h.apart⟩

theorem grownBy_set (w : World) (b o : Nat) (u : Value) : w.grownBy (w.setCell ⟨b, o, none⟩ u) (some b) :=
  ⟨rfl, rfl, rfl, by simp [World.setCell], fun k _ hk => Below.heap_setCell _ _ _ _ (fun e => hk (by rw [e]))⟩
theorem grownBy_drewN (w : World) (n : Nat) (row : Option Nat) : w.grownBy (w.drewN n) row := ⟨rfl, rfl, rfl, Nat.le_refl _, fun _ _ _ => rfl⟩

theorem Src.drewN {w : World} {b : Nat} {p : Option Addr} {q : Nat} {cs : List UInt8} {n : Int} (h : Src w b p q cs n) (k : Nat) : Src (w.drewN k) b p q cs n := ⟨h.loc, h.rd, h.apart⟩

theorem Src.keep {w w' : World} {b : Nat} {p : Option Addr} {q : Nat} {cs : List UInt8} {n : Int} (h : Src w b p q cs n) (hb : Below w.heap.size w w') : Src w' b p q cs n :=
  ⟨h.loc.keep hb h.lt, h.rd.keep hb, h.apart⟩

/-- A list of numbers that was just laid. -/
theorem new_ints (w : World) (c : Array Value) (t : TypeId) (xs : List Int) (h : c.toList = xs.map (Value.int .i64)) :
    ∀ i, i < xs.length → (w.alloc (.cells c t)).cell? ⟨w.heap.size, i, none⟩ = some (.int .i64 (xs.getD i 0)) := fun i hi => by
  rw [World.cell?_alloc_new]
  have e : c[i]? = c.toList[i]? := by simp
  rw [e, h]
  simp [hi]

end Go.Proofs.YtbaldmmbphbinaaGreatDoor

/- Bytes as a text, with no program in it: what string(b) gives of a slice of bytes that can be read. -/
namespace Go.Proofs.YtbaldmmbphbinaaGreatDoor
open Go.RowKit

def strB (bs : List UInt8) : ByteArray := ⟨bs.toArray⟩
theorem strB_size (bs : List UInt8) : (strB bs).size = bs.length := by simp [strB, ByteArray.size]
theorem strB_inj {a b : List UInt8} (h : strB a = strB b) : a = b := by
  have := congrArg (fun s : ByteArray => s.data.toList) h
  simpa [strB] using this
theorem strB_list (bs : List UInt8) : (strB bs).toList = bs := by rw [ByteArray.toList_eq]; rfl
theorem strB_toList (s : ByteArray) : strB s.data.toList = s := by simp [strB]

theorem strB_at (l : List UInt8) (i : Nat) (h : i < (strB l).size) : (((strB l)[i]'h).toNat : Int) = at8 l i := by
  have h' : i < l.length := by rw [strB_size] at h; exact h
  rw [at8_get h']
  rfl

theorem run_str {P : Program} {w : World} {a : Option Addr} {cap : Nat} {bs : List UInt8} (hr : Rd w a cap bs) {src dst e : TypeId}
    (hs : P.underlying src = some (.slice e)) (he : P.underlying e = some (.int .u8)) (hd : P.underlying dst = some .string) :
    (convert src dst (.slice a bs.length cap)).run P w = .ok (.string (strB bs)) w := by
  by_cases h0 : 0 < bs.length
  · obtain ⟨b, o, rfl, hc⟩ := hr.2.2.2 h0
    rw [run_convert_bytes_arg w src e hs he b o bs.length cap (bs.map fun x => (x.toNat : Int)) (by simp) (fun i hi => by rw [hc i hi, at8_get hi]; simp [hi]) dst hd]
    congr 2
    have hid : (fun n : Int => UInt8.ofNat n.toNat) ∘ (fun x : UInt8 => (x.toNat : Int)) = id := by funext x; simp
    simp [strOfNums, strB, hid]
  · have e0 : bs = [] := List.length_eq_zero_iff.1 (by omega)
    subst e0
    cases a with
    | none => exact run_convert_bytes_nil w src e hs he 0 cap dst hd
    | some x =>
      rw [show ([] : List UInt8).length = 0 from rfl, run_convert_bytes_string w src dst e _ 0 cap hs he hd, run_bytesToString w x 0 cap [] (by simpa using run_loadCells_list (P := P) w x [] (fun j v hj => by simp at hj))]
      rfl

/-- What '[]byte(s)' makes: its room and its world. -/
def bytesC (w : World) (l : List UInt8) : Nat := grownCap w (strB l).size 0 5
def bytesW (w : World) (l : List UInt8) : World := w.drew.alloc (.cells (bytesRow (strB l) (bytesC w l)) 5 ((bytesRow (strB l) (bytesC w l)).size, (bytesRow (strB l) (bytesC w l)).size + 1))
theorem run_bytes {P : Program} {src dst : TypeId} (hs : P.underlying src = some .string) (hd : P.underlying dst = some (.slice 5)) (he : P.underlying 5 = some (.int .u8)) (l : List UInt8) (w : World) :
    (convert src dst (.string (strB l))).run P w = .ok (.slice (some ⟨w.heap.size, 0, none⟩) l.length (bytesC w l)) (bytesW w l) := by
  rw [run_bytes_of_string w src dst 5 (strB l) hs hd he, strB_size]
  rfl
theorem bytesW_below (w : World) (l : List UInt8) : Below w.heap.size w (bytesW w l) := (Below.refl _ _).drew.alloc (Nat.le_refl _) _
theorem bytesW_rd (w : World) (l : List UInt8) (hm : l.length ≤ maxLen) : Rd (bytesW w l) (some ⟨w.heap.size, 0, none⟩) (bytesC w l) l := by
  refine ⟨?_, ?_, fun h => by simp at h, fun _ => ⟨w.heap.size, 0, rfl, fun i hi => ?_⟩⟩
  · have := grownCap_ge w (strB l).size 0 5
    rw [strB_size] at this
    unfold bytesC
    rw [strB_size]
    exact this
  · exact grownCap_le_maxLen _ _ _ _ (by rw [strB_size]; exact hm)
  · have h := World.cell?_alloc_mark w.drew (bytesRow (strB l) (bytesC w l)) 5 ((bytesRow (strB l) (bytesC w l)).size, (bytesRow (strB l) (bytesC w l)).size + 1) i
    rw [Nat.zero_add]
    refine h.trans ?_
    rw [bytesRow_at _ _ _ (by simpa [strB] using hi), at8_get hi]
    rfl

end Go.Proofs.YtbaldmmbphbinaaGreatDoor

/- The digits of bytes, with no program in it. -/
namespace Go.Proofs.YtbaldmmbphbinaaGreatDoor
open Go.RowKit

def hexAll : List UInt8 := [48, 49, 50, 51, 52, 53, 54, 55, 56, 57, 97, 98, 99, 100, 101, 102]
def hexD (v : Int) : UInt8 := hexAll.getD v.toNat 0
def hexL (bs : List UInt8) : List UInt8 := bs.flatMap fun b => [hexD (b.toNat / 16), hexD (b.toNat % 16)]
theorem hexL_len (bs : List UInt8) : (hexL bs).length = 2 * bs.length := by
  induction bs with
  | nil => rfl
  | cons b bs ih => simp only [hexL, List.flatMap_cons, List.length_append, List.length_cons, List.length_nil] at ih ⊢; omega
theorem hexL_take (bs : List UInt8) (k : Nat) (h : k < bs.length) : hexL (bs.take (k + 1)) = hexL (bs.take k) ++ [hexD (at8 bs k / 16)] ++ [hexD (at8 bs k % 16)] := by
  rw [List.take_succ_eq_append_getElem h, at8_get h]
  unfold hexL
  rw [List.flatMap_append, List.append_assoc]
  rfl

theorem run_add {P : Program} (x y : List UInt8) (h : x.length + y.length ≤ 9223372036854775807) (w : World) :
    (Op.stringOp .add (strB x) (strB y)).run P w = .ok (.string (strB (x ++ y))) w := by
  rw [run_string_add_sum w _ _ (by rw [strB_size, strB_size]; exact h)]
  unfold strB
  rw [ByteArray.mk_append_mk]

theorem cell_one_new (w : World) (a : Value) (t : TypeId) : ∀ j u, [a][j]? = some u → (w.alloc (.cells #[a] t)).cell? ((⟨w.heap.size, 0, none⟩ : Addr).add j) = some u := by
  intro j u hj
  match j, hj with
  | 0, hj => simp at hj; subst hj; simp [Addr.add]
  | j + 1, hj => simp at hj
theorem own_two {w : World} {B : Nat} {v : Value} {x : List UInt8} {a b : UInt8} (h : w.ownsRow B 5 1 v (x.length + 2) (x.map u8v ++ [.int .u8 a.toNat, .int .u8 b.toNat])) : Own w B v (x ++ [a] ++ [b]) := by
  unfold Own
  rw [show (x ++ [a] ++ [b]).length = x.length + 2 by simp, show (x ++ [a] ++ [b]).map u8v = x.map u8v ++ [.int .u8 a.toNat, .int .u8 b.toNat] by simp [u8v]]
  exact h
theorem own_one {w : World} {B : Nat} {v : Value} {x : List UInt8} {a : UInt8} (h : w.ownsRow B 5 1 v (x.length + 1) (x.map u8v ++ [.int .u8 a.toNat])) : Own w B v (x ++ [a]) := by
  unfold Own
  rw [show (x ++ [a]).length = x.length + 1 by simp, show (x ++ [a]).map u8v = x.map u8v ++ [.int .u8 a.toNat] by simp [u8v]]
  exact h

end Go.Proofs.YtbaldmmbphbinaaGreatDoor

/- The contracts of the tests of a word and of a range: spec.l1In, spec.l1Word, impl.isWord answer the Bool inB of their arguments and leave the world as it is. -/
namespace Go.Proofs.YtbaldmmbphbinaaGreatDoor
open Go.ChangeShapes Go.WideShapes Go.ChangeAt Go.RowKit

set_option maxHeartbeats 400000 in
theorem l1In_c (v lo hi : Int) (w : World) :
    Calls Tryz.prog 56 #[.int .i64 v, .int .i64 lo, .int .i64 hi] w fun e w' => e = .returned (.bool (inB v lo hi)) ∧ w' = w := by
  by_cases h1 : lo ≤ v
  · by_cases h2 : v ≤ hi
    · go_enter Tryz.func56, Tryz.ntmps56
      go_wp2
      go_ret
      exact ⟨by rw [inB_true h1 h2]; rfl, rfl⟩
    · go_enter Tryz.func56, Tryz.ntmps56
      go_wp2
      go_ret
      exact ⟨by rw [inB_false (by omega)]; rfl, rfl⟩
  · go_enter Tryz.func56, Tryz.ntmps56
    go_wp2
    go_ret
    exact ⟨by rw [inB_false (by omega)]; rfl, rfl⟩



end Go.Proofs.YtbaldmmbphbinaaGreatDoor

/- The contracts of TurnWord and of what it calls, in the specification and in the program: both answer turnCode and turnVal, at every argument. -/
namespace Go.Proofs.YtbaldmmbphbinaaGreatDoor
open Go.ChangeShapes Go.WideShapes Go.ChangeAt Go.RowKit

def turnCode (v n : Int) : Int := if inB v 0 4294967295 && inB n 0 31 then 0 else 3
def turnVal (v n : Int) : Int := if inB v 0 4294967295 && inB n 0 31 then (rotN v.toNat n.toNat : Nat) else 0
theorem turnCode_ok {a b : Int} (ha : inB a 0 4294967295 = true) (hb : inB b 0 31 = true) : turnCode a b = 0 := by simp [turnCode, ha, hb]
theorem turnVal_ok {a b : Int} (ha : inB a 0 4294967295 = true) (hb : inB b 0 31 = true) : turnVal a b = (rotN a.toNat b.toNat : Nat) := by simp [turnVal, ha, hb]
theorem turnCode_no {a b : Int} (h : inB a 0 4294967295 = false ∨ inB b 0 31 = false) : turnCode a b = 3 := by rcases h with h | h <;> simp [turnCode, h]
theorem turnVal_no {a b : Int} (h : inB a 0 4294967295 = false ∨ inB b 0 31 = false) : turnVal a b = 0 := by rcases h with h | h <;> simp [turnVal, h]
theorem i64_of {a b : Int} (h : a = b) : Value.int .i64 a = .int .i64 b := by rw [h]
theorem ret_i64 {a b : Int} (h : a = b) : Ending.returned (Value.int .i64 a) = .returned (.int .i64 b) := by rw [h]
theorem ret_u32 {a b : Int} (h : a = b) : Ending.returned (Value.int .u32 a) = .returned (.int .u32 b) := by rw [h]

set_option maxHeartbeats 400000 in
theorem l1Turn_c (v n : Nat) (w : World) (h2 : v < 4294967296) (h3 : 1 ≤ n) (h4 : n ≤ 31) :
    Calls Tryz.prog 108 #[.int .i64 v, .int .i64 n] w fun e w' => e = .returned (.int .i64 (rotN v n : Nat)) ∧ w' = w := by
  have hw := wrap_ne n h4
  have HS : Hid (wrap64 ((v : Int) / 2 ^ n + wrap64 ((v : Int) % wrap64 (2 ^ n) * 2 ^ (32 - n))) = (rotN v n : Nat)) := rot_spec v n h2 h3 h4
  have hn : (32 - (n : Int)).toNat = 32 - n := by omega
  go_enter Tryz.func108, Tryz.ntmps108
  go_wp2
  go_ret
  exact ⟨ret_i64 HS.out, rfl⟩


set_option maxHeartbeats 400000 in
theorem rot_c (v n : Nat) (w : World) (h2 : v < 4294967296) (h4 : n ≤ 31) :
    Calls Tryz.prog 191 #[.int .u32 v, .int .i64 (-(n : Int))] w fun e w' => e = .returned (.int .u32 (rotN v n : Nat)) ∧ w' = w := by
  by_cases h0 : n = 0
  · subst h0
    have hk : bits .and .u64 0 31 = 0 := by decide
    have HS : Hid (bits BinOp.or IntKind.u32 (v : Int) ((v : Int) / 4294967296) = (rotN v 0 : Nat)) := by
      rw [rotN_zero, show ((v : Int) / 4294967296) = ((0 : Nat) : Int) by omega]
      exact (u32_or_nat v 0 h2 (by decide)).trans (by simp)
    go_enter Tryz.func191, Tryz.ntmps191
    go_wp2
    go_ret
    exact ⟨ret_u32 HS.out, rfl⟩
  · have hk := and31 n h4
    rw [Nat.mod_eq_of_lt (by omega)] at hk
    have HS : Hid (bits .or .u32 ((v : Int) * 2 ^ (32 - n) % 4294967296) ((v : Int) / 2 ^ n) = (rotN v n : Nat)) := rot_or v n h2 (by omega) h4
    have hn : (32 - ((32 - n : Nat) : Int)).toNat = n := by omega
    have hl : ((32 - n : Nat) : Int) ≤ 32 := by omega
    generalize hm : 32 - n = m at *
    go_enter Tryz.func191, Tryz.ntmps191
    go_wp2
    go_ret
    exact ⟨ret_u32 HS.out, rfl⟩

set_option maxHeartbeats 400000 in
theorem turnRight_c (v n : Nat) (w : World) (h2 : v < 4294967296) (h4 : n ≤ 31) :
    Calls Tryz.prog 189 #[.int .u32 v, .int .i64 n] w fun e w' => e = .returned (.int .u32 (rotN v n : Nat)) ∧ w' = w := by
  go_enter Tryz.func189, Tryz.ntmps189
  go_wp2_with fail
  refine (rot_c v n _ h2 h4).mono ?_
  rintro e w1 ⟨rfl, rfl⟩
  go_wp2
  go_ret
  exact ⟨rfl, rfl⟩


theorem l1Turn_i (v n : Int) (w : World) (h1 : 0 ≤ v) (h2 : v ≤ 4294967295) (h3 : 1 ≤ n) (h4 : n ≤ 31) :
    Calls Tryz.prog 108 #[.int .i64 v, .int .i64 n] w fun e w' => e = .returned (.int .i64 (rotN v.toNat n.toNat : Nat)) ∧ w' = w := by
  obtain ⟨v, rfl⟩ := Int.eq_ofNat_of_zero_le h1
  obtain ⟨n, rfl⟩ := Int.eq_ofNat_of_zero_le (show 0 ≤ n by omega)
  rw [Int.toNat_natCast, Int.toNat_natCast]
  exact l1Turn_c v n w (by omega) (by omega) (by omega)
theorem turnRight_i (v n : Int) (w : World) (h1 : 0 ≤ v) (h2 : v ≤ 4294967295) (h3 : 0 ≤ n) (h4 : n ≤ 31) :
    Calls Tryz.prog 189 #[.int .u32 v, .int .i64 n] w fun e w' => e = .returned (.int .u32 (rotN v.toNat n.toNat : Nat)) ∧ w' = w := by
  obtain ⟨v, rfl⟩ := Int.eq_ofNat_of_zero_le h1
  obtain ⟨n, rfl⟩ := Int.eq_ofNat_of_zero_le h3
  rw [Int.toNat_natCast, Int.toNat_natCast]
  exact turnRight_c v n w (by omega) (by omega)



end Go.Proofs.YtbaldmmbphbinaaGreatDoor

/- Arrays in memory (a local of an array type, a boxed one), with no program in it: 'Arr w g t vs': block g holds just these cells. What keeps it. No conditions but those in each line. -/
namespace Go.Proofs.YtbaldmmbphbinaaGreatDoor
open Go.RowKit

def Arr (w : World) (g : Nat) (t : TypeId) (vs : List Value) : Prop := w.heap[g]? = some (.cells vs.toArray t (0, 0))

theorem Arr.cell {w : World} {g : Nat} {t : TypeId} {vs : List Value} (h : Arr w g t vs) (i : Nat) : w.cell? ⟨g, i, none⟩ = vs[i]? := by
  rw [cell_of_row w g i vs.toArray t (0, 0) h]; simp
theorem Arr.frozen {w : World} {g : Nat} {t : TypeId} {vs : List Value} (h : Arr w g t vs) (i : Nat) : w.frozen? ⟨g, i, none⟩ = false := frozen_of_row w g i _ t h
theorem Arr.lt {w : World} {g : Nat} {t : TypeId} {vs : List Value} (h : Arr w g t vs) : g < w.heap.size := (Array.getElem?_eq_some_iff.1 h).1
theorem Arr.set {w : World} {g : Nat} {t : TypeId} {vs : List Value} (h : Arr w g t vs) (i : Nat) (v : Value) : Arr (w.setCell ⟨g, i, none⟩ v) g t (vs.set i v) := by
  unfold Arr
  rw [heap_setCell_same w g i vs.toArray t v h]; simp
theorem Arr.setOther {w : World} {g : Nat} {t : TypeId} {vs : List Value} (h : Arr w g t vs) {a : Addr} (ha : g ≠ a.block) (u : Value) : Arr (w.setCell a u) g t vs := by
  unfold Arr
  rw [heap_setCell_other w a g u ha]; exact h
theorem Arr.keep {w w' : World} {g B : Nat} {t : TypeId} {vs : List Value} (h : Arr w g t vs) (hb : Below B w w') (hg : g < B) : Arr w' g t vs := (hb.block g hg).trans h
theorem Arr.stay {w w' : World} {g : Nat} {t : TypeId} {vs : List Value} (h : Arr w g t vs) (hb : Below w.heap.size w w') : Arr w' g t vs := h.keep hb h.lt
theorem Arr.other {w w' : World} {g : Nat} {t : TypeId} {vs : List Value} {row : Option Nat} (h : Arr w g t vs) (hg : w.grownBy w' row) (hne : row ≠ some g) : Arr w' g t vs :=
  (hg.block g h.lt (fun e => hne e.symm)).trans h
theorem Arr.drew {w : World} {g n : Nat} {t : TypeId} {vs : List Value} (h : Arr w g t vs) : Arr (w.drewN n) g t vs := h
theorem Arr.new (w : World) (vs : List Value) (t : TypeId) : Arr (w.alloc (.cells vs.toArray t)) w.heap.size t vs := heap_alloc_new w _
theorem Arr.old (w : World) (o : Obj) {g : Nat} {t : TypeId} {vs : List Value} (h : Arr w g t vs) : Arr (w.alloc o) g t vs := h.stay (alloc_below w o)
theorem Arr.row {w : World} {g : Nat} {t : TypeId} {vs : List Value} (h : Arr w g t vs) (us : List Value) : Arr (w.setRow g us.toArray) g t us := setRow_heap w g _ _ t _ h
theorem Arr.rowOther {w : World} {g k : Nat} {t : TypeId} {vs : List Value} (h : Arr w g t vs) (hk : g ≠ k) (us : Array Value) : Arr (w.setRow k us) g t vs := (setRow_other w k g us hk).trans h
theorem Below.row {B : Nat} {a w : World} (h : Below B a w) {g : Nat} (hg : B ≤ g) (us : Array Value) : Below B a (w.setRow g us) :=
  ⟨h.os, h.tape, h.output, by rw [size_setRow]; exact h.size, fun k hk => (setRow_other w g k us (by omega)).trans (h.block k hk)⟩
theorem Own.row {w : World} {B : Nat} {v : Value} {bs : List UInt8} (h : Own w B v bs) {g : Nat} (hg : ∀ k, v.ownBlock = some k → k ≠ g) (us : Array Value) : Own (w.setRow g us) B v bs := by
  obtain ⟨h1, h2⟩ := h
  refine ⟨h1, ?_⟩
  rcases h2 with h2 | ⟨k, cap, cur, rfl, hb, hh, r⟩
  · exact .inl h2
  · exact .inr ⟨k, cap, cur, rfl, hb, (setRow_other w g k us (hg k rfl)).trans hh, r⟩
theorem Loc.arr {w : World} {g : Nat} {t : TypeId} {vs : List Value} (h : Arr w g t vs) : Loc w g vs := ⟨fun i _ hv => (h.cell i).trans hv, fun o => h.frozen o⟩

theorem addr_add (g o j : Nat) : (⟨g, o, none⟩ : Addr).add j = ⟨g, o + j, none⟩ := by simp [Addr.add]
theorem Arr.cells {w : World} {g : Nat} {t : TypeId} {vs : List Value} (h : Arr w g t vs) : ∀ j u, vs[j]? = some u → w.cell? ((⟨g, 0, none⟩ : Addr).add j) = some u := fun j u hu => by
  rw [addr_add, Nat.zero_add, h.cell]; exact hu
/-- A literal of no elements, laid behind a new block. -/
theorem none_owned (w : World) (X : Obj) (B : Nat) (e : TypeId) (hB : B ≤ w.heap.size) : ((w.alloc X).alloc (.cells #[] e)).ownsRow B e 1 (.slice (some ⟨w.heap.size + 1, 0, none⟩) 0 0) 0 [] := by
  have h := World.ownsRow_lit (base := B) (e := e) (size := 1) (w.alloc X) #[] 0 (by rw [size_alloc]; omega) (by unfold maxLen; decide) (by simp)
  rw [size_alloc] at h
  exact h

/-- What a loop that fills a row from its first element on has laid behind k rounds. -/
def partV (vs : List Value) (z : Value) (k : Nat) : List Value := vs.take k ++ List.replicate (vs.length - k) z
theorem partV_zero (vs : List Value) (z : Value) : partV vs z 0 = List.replicate vs.length z := by simp [partV]
theorem partV_all (vs : List Value) (z : Value) : partV vs z vs.length = vs := by simp [partV]
theorem partV_set {vs : List Value} {k : Nat} {v : Value} (z : Value) (h : vs[k]? = some v) : (partV vs z k).set k v = partV vs z (k + 1) := by
  have hk := (List.getElem?_eq_some_iff.1 h).1
  have hv := (List.getElem?_eq_some_iff.1 h).2
  have hl : (vs.take k).length = k := by simp; omega
  unfold partV
  rw [List.set_append_right _ _ (by omega), hl, Nat.sub_self, List.take_succ_eq_append_getElem hk, List.append_assoc]
  congr 1
  rw [show vs.length - k = (vs.length - (k + 1)) + 1 by omega, List.replicate_succ, List.set_cons_zero, hv]
  rfl
theorem partV_at (vs : List Value) (z : Value) (k : Nat) (h : k < vs.length) : (partV vs z k)[k]? = some z := by
  have hl : (vs.take k).length = k := by simp; omega
  unfold partV
  rw [List.getElem?_append_right (by omega), hl, Nat.sub_self, List.getElem?_replicate, if_pos (by omega)]

/-- A new variable of an array type, its cells not written out. -/
theorem wp_alloc_arr {P : Program} {o : Oper} {a : Act} {w : World} {K : Act → World → Prop} {Q : Exit → Act → World → Prop} (t : TypeId) (ho : o.op = .alloc t) (cs : Array Value) (hz : ∀ w, (zeroValue t).run P w = .ok (.agg cs) w)
    (h : K (a.put o.dst (.pointer (some ⟨w.heap.size, 0, none⟩))) (w.alloc (.cells cs t))) : o.wp P a w K Q := by
  unfold Oper.wp execOp
  simp only [ho, Instr.alloc, Sem.run_bind, hz, Result.andThen_ok, newVar, newRow, Value.cells, run_newObj_alloc, Sem.run_pure]
  exact h
theorem wpList_alloc_arr {P : Program} {ops : Array Oper} {rest : List Oper} {o : Oper} {a : Act} {w : World} {Q : Exit → Act → World → Prop} (hgd : o.guard = none) (t : TypeId) (ho : o.op = .alloc t) (cs : Array Value) (hz : ∀ w, (zeroValue t).run P w = .ok (.agg cs) w) (H : Nat) (hH : w.heap.size = H)
    (h : wpList P ops Q rest (a.put o.dst (.pointer (some ⟨H, 0, none⟩))) (w.alloc (.cells cs t))) : wpList P ops Q (o :: rest) a w := by
  subst hH
  exact wpList_plain hgd fun _ hK => wp_alloc_arr t ho cs hz (hK _ _ h)
theorem wpList_build_is {P : Program} {ops : Array Oper} {rest : List Oper} {o : Oper} {a : Act} {w : World} {Q : Exit → Act → World → Prop} (hgd : o.guard = none) (t : TypeId) (ho : o.op = .build t #[]) (cells : Array Value)
    (hb : P.built t [] = some cells) (h : wpList P ops Q rest (a.put o.dst (.agg cells)) w) : wpList P ops Q (o :: rest) a w :=
  wpList_build hgd t #[] ho (by simp [hb]) (by simpa [hb] using h)
/-- An element of an array that is a value. -/
theorem wpList_index_arr {P : Program} {ops : Array Oper} {rest : List Oper} {o : Oper} {a : Act} {w : World} {Q : Exit → Act → World → Prop} (hgd : o.guard = none) (t : TypeId) (x i : Operand) (ho : o.op = .index t x i)
    (n : Nat) (e : TypeId) (cs : Array Value) (j : Nat) (k : IntKind) (k' : IntKind) (v : Value) (hx : a.eval x = .agg cs) (hi : a.eval i = .int k (j : Int)) (hu : P.underlying t = some (.array n e)) (hj : j < n)
    (he : (P.info? e).map (·.size) = some 1) (hue : P.underlying e = some (.int k')) (hc : cs[j]? = some v)
    (h : wpList P ops Q rest (a.put o.dst v) w) : wpList P ops Q (o :: rest) a w :=
  wpList_plain hgd fun _ hK => by
    unfold Oper.wp execOp
    cases hq : P.info? e with
    | none => simp [hq] at he
    | some ie =>
      have hs : ie.size = 1 := by simpa [hq] using he
      have hj' : (0 : Int) ≤ (j : Int) ∧ (j : Int) < (n : Int) := by omega
      have hz : (sizeOf e).run P w = .ok 1 w := by simp [sizeOf, typeInfo, hq, hs]
      have hg : (isAgg e).run P w = .ok false w := by simp [isAgg, run_underlying hue]
      have r : (Instr.index t (.agg cs) (.int k (j : Int))).run P w = .ok v w := by
        simp only [Instr.index, asIntOf, Sem.run_bind, Sem.run_pure, Result.andThen_ok, run_underlying hu, if_pos hj', hz, Int.toNat_natCast, Nat.mul_one, Go.part, hg, hc]
        rfl
      simp only [ho, hx, hi, Sem.run_bind, Sem.run_pure, r, Result.andThen_ok]
      exact hK _ _ h

/-- 64 cells of zero. -/
def zI : List Value := List.replicate 64 (.int .i64 0)
def zU : List Value := List.replicate 64 (.int .u32 0)
theorem zI_len : zI.length = 64 := by simp [zI]
theorem zU_len : zU.length = 64 := by simp [zU]

end Go.Proofs.YtbaldmmbphbinaaGreatDoor

