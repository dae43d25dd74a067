/- The source of the draws in memory, with no program in it: a block that holds a code and a count; what keeps it. -/
import Derived.Test.YtflhoefocjmihaaBytes
import Derived.Laws.BytesArg
import Derived.Laws.IdiomStrings
import Derived.Test.YtflhoefocjmihaaRows
import Derived.Test.YtflhoefocjmihaaJoint1
import Derived.ProofKit
import Derived.OpenShut
namespace Go.Proofs.Ytflhoefocjmihaa
open Go.RowKit

structure Src (w : World) (b : Nat) (p : Option Addr) (q : Nat) (cs : List UInt8) (n : Int) : Prop where
  loc : Loc w b [.slice p cs.length q, .int .i64 n]
  rd : Rd w p q cs
  apart : 0 < cs.length → ∀ x, p = some x → x.block < b

theorem Src.lt {w : World} {b : Nat} {p : Option Addr} {q : Nat} {cs : List UInt8} {n : Int} (h : Src w b p q cs n) : b < w.heap.size := h.loc.1.lt

theorem Rd.set {w : World} {a : Option Addr} {cap : Nat} {bs : List UInt8} (h : Rd w a cap bs) {x : Addr} (hne : 0 < bs.length → ∀ y, a = some y → y.block ≠ x.block) (u : Value) : Rd (w.setCell x u) a cap bs := by
  obtain ⟨h1, h2, h3, h4⟩ := h
  refine ⟨h1, h2, h3, fun hp => ?_⟩
  obtain ⟨b, o, rfl, hc⟩ := h4 hp
  refine ⟨b, o, rfl, fun i hi => ?_⟩
  have e : (w.setCell x u).heap[b]? = w.heap[b]? := Below.heap_setCell _ _ _ _ (hne hp _ rfl)
  rw [World.cell?_of_block (w := w) (a := ⟨b, o + i, none⟩) e, hc i hi]

theorem Rd.other {w w' : World} {a : Option Addr} {cap : Nat} {bs : List UInt8} {row : Option Nat} (h : Rd w a cap bs) (hg : w.grownBy w' row) (hne : 0 < bs.length → ∀ y, a = some y → row ≠ some y.block) : Rd w' a cap bs := by
  obtain ⟨h1, h2, h3, h4⟩ := h
  refine ⟨h1, h2, h3, fun hp => ?_⟩
  obtain ⟨b, o, rfl, hc⟩ := h4 hp
  exact ⟨b, o, rfl, fun i hi => cell_other (hc i hi) hg (hne hp ⟨b, o, none⟩ rfl)⟩

theorem Src.next {w : World} {b : Nat} {p : Option Addr} {q : Nat} {cs : List UInt8} {n : Int} (h : Src w b p q cs n) (m : Int) : Src (w.setCell ⟨b, 1, none⟩ (.int .i64 m)) b p q cs m :=
  ⟨h.loc.set1 _, h.rd.set (fun hp y hy e => by have := h.apart hp y hy; simp at e; omega) _, h.apart⟩

theorem grownBy_set (w : World) (b o : Nat) (u : Value) : w.grownBy (w.setCell ⟨b, o, none⟩ u) (some b) :=
  ⟨rfl, rfl, rfl, by simp [World.setCell], fun k _ hk => Below.heap_setCell _ _ _ _ (fun e => hk (by rw [e]))⟩
theorem grownBy_drewN (w : World) (n : Nat) (row : Option Nat) : w.grownBy (w.drewN n) row := ⟨rfl, rfl, rfl, Nat.le_refl _, fun _ _ _ => rfl⟩

theorem Src.drewN {w : World} {b : Nat} {p : Option Addr} {q : Nat} {cs : List UInt8} {n : Int} (h : Src w b p q cs n) (k : Nat) : Src (w.drewN k) b p q cs n := ⟨h.loc, h.rd, h.apart⟩

theorem Src.keep {w w' : World} {b : Nat} {p : Option Addr} {q : Nat} {cs : List UInt8} {n : Int} (h : Src w b p q cs n) (hb : Below w.heap.size w w') : Src w' b p q cs n :=
  ⟨h.loc.keep hb h.lt, h.rd.keep hb, h.apart⟩

/-- A list of numbers that was just laid. -/
theorem new_ints (w : World) (c : Array Value) (t : TypeId) (xs : List Int) (h : c.toList = xs.map (Value.int .i64)) :
    ∀ i, i < xs.length → (w.alloc (.cells c t)).cell? ⟨w.heap.size, i, none⟩ = some (.int .i64 (xs.getD i 0)) := fun i hi => by
  rw [World.cell?_alloc_new]
  have e : c[i]? = c.toList[i]? := by simp
  rw [e, h]
  simp [hi]

end Go.Proofs.Ytflhoefocjmihaa

/- Bytes as a text, with no program in it: what string(b) gives of a slice of bytes that can be read. -/
namespace Go.Proofs.Ytflhoefocjmihaa
open Go.RowKit

def strB (bs : List UInt8) : ByteArray := ⟨bs.toArray⟩
theorem strB_size (bs : List UInt8) : (strB bs).size = bs.length := by simp [strB, ByteArray.size]
theorem strB_inj {a b : List UInt8} (h : strB a = strB b) : a = b := by
  have := congrArg (fun s : ByteArray => s.data.toList) h
  simpa [strB] using this
theorem strB_list (bs : List UInt8) : (strB bs).toList = bs := by rw [ByteArray.toList_eq]; rfl
theorem strB_toList (s : ByteArray) : strB s.data.toList = s := by simp [strB]

theorem strB_at (l : List UInt8) (i : Nat) (h : i < (strB l).size) : (((strB l)[i]'h).toNat : Int) = at8 l i := by
  have h' : i < l.length := by rw [strB_size] at h; exact h
  rw [at8_get h']
  rfl

theorem run_str {P : Program} {w : World} {a : Option Addr} {cap : Nat} {bs : List UInt8} (hr : Rd w a cap bs) {src dst e : TypeId}
    (hs : P.underlying src = some (.slice e)) (he : P.underlying e = some (.int .u8)) (hd : P.underlying dst = some .string) :
    (convert src dst (.slice a bs.length cap)).run P w = .ok (.string (strB bs)) w := by
  by_cases h0 : 0 < bs.length
  · obtain ⟨b, o, rfl, hc⟩ := hr.2.2.2 h0
    rw [run_convert_bytes_arg w src e hs he b o bs.length cap (bs.map fun x => (x.toNat : Int)) (by simp) (fun i hi => by rw [hc i hi, at8_get hi]; simp [hi]) dst hd]
    congr 2
    have hid : (fun n : Int => UInt8.ofNat n.toNat) ∘ (fun x : UInt8 => (x.toNat : Int)) = id := by funext x; simp
    simp [strOfNums, strB, hid]
  · have e0 : bs = [] := List.length_eq_zero_iff.1 (by omega)
    subst e0
    cases a with
    | none => exact run_convert_bytes_nil w src e hs he 0 cap dst hd
    | some x =>
      rw [show ([] : List UInt8).length = 0 from rfl, run_convert_bytes_string w src dst e _ 0 cap hs he hd, run_bytesToString w x 0 cap [] (by simpa using run_loadCells_list (P := P) w x [] (fun j v hj => by simp at hj))]
      rfl

/-- What '[]byte(s)' makes: its room and its world. -/
def bytesC (w : World) (l : List UInt8) : Nat := grownCap w (strB l).size 0 5
def bytesW (w : World) (l : List UInt8) : World := w.drew.alloc (.cells (bytesRow (strB l) (bytesC w l)) 5 ((bytesRow (strB l) (bytesC w l)).size, (bytesRow (strB l) (bytesC w l)).size + 1))
theorem run_bytes {P : Program} {src dst : TypeId} (hs : P.underlying src = some .string) (hd : P.underlying dst = some (.slice 5)) (he : P.underlying 5 = some (.int .u8)) (l : List UInt8) (w : World) :
    (convert src dst (.string (strB l))).run P w = .ok (.slice (some ⟨w.heap.size, 0, none⟩) l.length (bytesC w l)) (bytesW w l) := by
  rw [run_bytes_of_string w src dst 5 (strB l) hs hd he, strB_size]
  rfl
theorem bytesW_below (w : World) (l : List UInt8) : Below w.heap.size w (bytesW w l) := (Below.refl _ _).drew.alloc (Nat.le_refl _) _
theorem bytesW_rd (w : World) (l : List UInt8) (hm : l.length ≤ maxLen) : Rd (bytesW w l) (some ⟨w.heap.size, 0, none⟩) (bytesC w l) l := by
  refine ⟨?_, ?_, fun h => by simp at h, fun _ => ⟨w.heap.size, 0, rfl, fun i hi => ?_⟩⟩
  · have := grownCap_ge w (strB l).size 0 5
    rw [strB_size] at this
    unfold bytesC
    rw [strB_size]
    exact this
  · exact grownCap_le_maxLen _ _ _ _ (by rw [strB_size]; exact hm)
  · have h := World.cell?_alloc_mark w.drew (bytesRow (strB l) (bytesC w l)) 5 ((bytesRow (strB l) (bytesC w l)).size, (bytesRow (strB l) (bytesC w l)).size + 1) i
    rw [Nat.zero_add]
    refine h.trans ?_
    rw [bytesRow_at _ _ _ (by simpa [strB] using hi), at8_get hi]
    rfl

end Go.Proofs.Ytflhoefocjmihaa

/- The digits of bytes, with no program in it. -/
namespace Go.Proofs.Ytflhoefocjmihaa
open Go.RowKit

def hexAll : List UInt8 := [48, 49, 50, 51, 52, 53, 54, 55, 56, 57, 97, 98, 99, 100, 101, 102]
def hexD (v : Int) : UInt8 := hexAll.getD v.toNat 0
def hexL (bs : List UInt8) : List UInt8 := bs.flatMap fun b => [hexD (b.toNat / 16), hexD (b.toNat % 16)]
theorem hexL_len (bs : List UInt8) : (hexL bs).length = 2 * bs.length := by
  induction bs with
  | nil => rfl
  | cons b bs ih => simp only [hexL, List.flatMap_cons, List.length_append, List.length_cons, List.length_nil] at ih ⊢; omega
theorem hexL_take (bs : List UInt8) (k : Nat) (h : k < bs.length) : hexL (bs.take (k + 1)) = hexL (bs.take k) ++ [hexD (at8 bs k / 16)] ++ [hexD (at8 bs k % 16)] := by
  rw [List.take_succ_eq_append_getElem h, at8_get h]
  unfold hexL
  rw [List.flatMap_append, List.append_assoc]
  rfl

theorem run_add {P : Program} (x y : List UInt8) (h : x.length + y.length ≤ 9223372036854775807) (w : World) :
    (Op.stringOp .add (strB x) (strB y)).run P w = .ok (.string (strB (x ++ y))) w := by
  rw [run_string_add_sum w _ _ (by rw [strB_size, strB_size]; exact h)]
  unfold strB
  rw [ByteArray.mk_append_mk]

theorem cell_one_new (w : World) (a : Value) (t : TypeId) : ∀ j u, [a][j]? = some u → (w.alloc (.cells #[a] t)).cell? ((⟨w.heap.size, 0, none⟩ : Addr).add j) = some u := by
  intro j u hj
  match j, hj with
  | 0, hj => simp at hj; subst hj; simp [Addr.add]
  | j + 1, hj => simp at hj
theorem own_two {w : World} {B : Nat} {v : Value} {x : List UInt8} {a b : UInt8} (h : w.ownsRow B 5 1 v (x.length + 2) (x.map u8v ++ [.int .u8 a.toNat, .int .u8 b.toNat])) : Own w B v (x ++ [a] ++ [b]) := by
  unfold Own
  rw [show (x ++ [a] ++ [b]).length = x.length + 2 by simp, show (x ++ [a] ++ [b]).map u8v = x.map u8v ++ [.int .u8 a.toNat, .int .u8 b.toNat] by simp [u8v]]
  exact h
theorem own_one {w : World} {B : Nat} {v : Value} {x : List UInt8} {a : UInt8} (h : w.ownsRow B 5 1 v (x.length + 1) (x.map u8v ++ [.int .u8 a.toNat])) : Own w B v (x ++ [a]) := by
  unfold Own
  rw [show (x ++ [a]).length = x.length + 1 by simp, show (x ++ [a]).map u8v = x.map u8v ++ [.int .u8 a.toNat] by simp [u8v]]
  exact h

end Go.Proofs.Ytflhoefocjmihaa

/- The contracts of the tests of a word and of a range: spec.l1In, spec.l1Word, impl.isWord answer the Bool inB of their arguments and leave the world as it is. -/
namespace Go.Proofs.Ytflhoefocjmihaa
open Go.ChangeShapes Go.WideShapes Go.ChangeAt Go.RowKit

set_option maxHeartbeats 400000 in
theorem l1In_c (v lo hi : Int) (w : World) :
    Calls Try.prog 23 #[.int .i64 v, .int .i64 lo, .int .i64 hi] w fun e w' => e = .returned (.bool (inB v lo hi)) ∧ w' = w := by
  by_cases h1 : lo ≤ v
  · by_cases h2 : v ≤ hi
    · go_enter Try.func23, Try.ntmps23
      go_wp2
      go_ret
      exact ⟨by rw [inB_true h1 h2]; rfl, rfl⟩
    · go_enter Try.func23, Try.ntmps23
      go_wp2
      go_ret
      exact ⟨by rw [inB_false (by omega)]; rfl, rfl⟩
  · go_enter Try.func23, Try.ntmps23
    go_wp2
    go_ret
    exact ⟨by rw [inB_false (by omega)]; rfl, rfl⟩



end Go.Proofs.Ytflhoefocjmihaa

/- The contracts of TurnWord and of what it calls, in the specification and in the program: both answer turnCode and turnVal, at every argument. -/
namespace Go.Proofs.Ytflhoefocjmihaa
open Go.ChangeShapes Go.WideShapes Go.ChangeAt Go.RowKit

def turnCode (v n : Int) : Int := if inB v 0 4294967295 && inB n 0 31 then 0 else 3
def turnVal (v n : Int) : Int := if inB v 0 4294967295 && inB n 0 31 then (rotN v.toNat n.toNat : Nat) else 0
theorem turnCode_ok {a b : Int} (ha : inB a 0 4294967295 = true) (hb : inB b 0 31 = true) : turnCode a b = 0 := by simp [turnCode, ha, hb]
theorem turnVal_ok {a b : Int} (ha : inB a 0 4294967295 = true) (hb : inB b 0 31 = true) : turnVal a b = (rotN a.toNat b.toNat : Nat) := by simp [turnVal, ha, hb]
theorem turnCode_no {a b : Int} (h : inB a 0 4294967295 = false ∨ inB b 0 31 = false) : turnCode a b = 3 := by rcases h with h | h <;> simp [turnCode, h]
theorem turnVal_no {a b : Int} (h : inB a 0 4294967295 = false ∨ inB b 0 31 = false) : turnVal a b = 0 := by rcases h with h | h <;> simp [turnVal, h]
theorem i64_of {a b : Int} (h : a = b) : Value.int .i64 a = .int .i64 b := by rw [h]
theorem ret_i64 {a b : Int} (h : a = b) : Ending.returned (Value.int .i64 a) = .returned (.int .i64 b) := by rw [h]
theorem ret_u32 {a b : Int} (h : a = b) : Ending.returned (Value.int .u32 a) = .returned (.int .u32 b) := by rw [h]





end Go.Proofs.Ytflhoefocjmihaa

