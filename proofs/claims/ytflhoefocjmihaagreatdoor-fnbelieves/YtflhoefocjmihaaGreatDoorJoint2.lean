/- The source of the draws in memory, with no program in it: a block that holds a code and a count; what keeps it. -/
import Derived.Test.YtflhoefocjmihaaGreatDoorJoint1
import Derived.Laws.BytesArg
import Derived.Laws.IdiomStrings
namespace Go.Proofs.YtflhoefocjmihaaGreatDoor
open Go.RowKit

structure Src (w : World) (b : Nat) (p : Option Addr) (q : Nat) (cs : List UInt8) (n : Int) : Prop where
  loc : Loc w b [.slice p cs.length q, .int .i64 n]
  rd : Rd w p q cs
  apart : 0 < cs.length → ∀ x, p = some x → x.block < b

theorem Src.lt {w : World} {b : Nat} {p : Option Addr} {q : Nat} {cs : List UInt8} {n : Int} (h : Src w b p q cs n) : b < w.heap.size := h.loc.1.lt

theorem Rd.set {w : World} {a : Option Addr} {cap : Nat} {bs : List UInt8} (h : Rd w a cap bs) {x : Addr} (hne : 0 < bs.length → ∀ y, a = some y → y.block ≠ x.block) (u : Value) : Rd (w.setCell x u) a cap bs := by
  obtain ⟨h1, h2, h3, h4⟩ := h
  refine ⟨h1, h2, h3, fun hp => ?_⟩
  obtain ⟨b, o, rfl, hc⟩ := h4 hp
  refine ⟨b, o, rfl, fun i hi => ?_⟩
  have e : (w.setCell x u).heap[b]? = w.heap[b]? := Below.heap_setCell _ _ _ _ (hne hp _ rfl)
  rw [World.cell?_of_block (w := w) (a := ⟨b, o + i, none⟩) e, hc i hi]

theorem Rd.other {w w' : World} {a : Option Addr} {cap : Nat} {bs : List UInt8} {row : Option Nat} (h : Rd w a cap bs) (hg : w.grownBy w' row) (hne : 0 < bs.length → ∀ y, a = some y → row ≠ some y.block) : Rd w' a cap bs := by
  obtain ⟨h1, h2, h3, h4⟩ := h
  refine ⟨h1, h2, h3, fun hp => ?_⟩
  obtain ⟨b, o, rfl, hc⟩ := h4 hp
  exact ⟨b, o, rfl, fun i hi => cell_other (hc i hi) hg (hne hp ⟨b, o, none⟩ rfl)⟩

theorem Src.next {w : World} {b : Nat} {p : Option Addr} {q : Nat} {cs : List UInt8} {n : Int} (h : Src w b p q cs n) (m : Int) : Src (w.setCell ⟨b, 1, none⟩ (.int .i64 m)) b p q cs m :=
  ⟨h.loc.set1 _, h.rd.set (fun hp y hy e => by have := h.apart hp y hy; simp at e; omega) _, h.apart⟩

theorem grownBy_set (w : World) (b o : Nat) (u : Value) : w.grownBy (w.setCell ⟨b, o, none⟩ u) (some b) :=
  ⟨rfl, rfl, rfl, by simp [World.setCell], fun k _ hk => Below.heap_setCell _ _ _ _ (fun e => hk (by rw [e]))⟩
theorem grownBy_drewN (w : World) (n : Nat) (row : Option Nat) : w.grownBy (w.drewN n) row := ⟨rfl, rfl, rfl, Nat.le_refl _, fun _ _ _ => rfl⟩

theorem Src.drewN {w : World} {b : Nat} {p : Option Addr} {q : Nat} {cs : List UInt8} {n : Int} (h : Src w b p q cs n) (k : Nat) : Src (w.drewN k) b p q cs n := ⟨h.loc, h.rd, h.apart⟩

theorem Src.keep {w w' : World} {b : Nat} {p : Option Addr} {q : Nat} {cs : List UInt8} {n : Int} (h : Src w b p q cs n) (hb : Below w.heap.size w w') : Src w' b p q cs n :=
  ⟨h.loc.keep hb h.lt, h.rd.keep hb, h.apart⟩

/-- A list of numbers that was just laid. -/
theorem new_ints (w : World) (c : Array Value) (t : TypeId) (xs : List Int) (h : c.toList = xs.map (Value.int .i64)) :
    ∀ i, i < xs.length → (w.alloc (.cells c t)).cell? ⟨w.heap.size, i, none⟩ = some (.int .i64 (xs.getD i 0)) := fun i hi => by
  rw [World.cell?_alloc_new]
  have e : c[i]? = c.toList[i]? := by simp
  rw [e, h]
  simp [hi]

end Go.Proofs.YtflhoefocjmihaaGreatDoor

/- Bytes as a text, with no program in it: what string(b) gives of a slice of bytes that can be read. -/
namespace Go.Proofs.YtflhoefocjmihaaGreatDoor
open Go.RowKit

def strB (bs : List UInt8) : ByteArray := ⟨bs.toArray⟩
theorem strB_size (bs : List UInt8) : (strB bs).size = bs.length := by simp [strB, ByteArray.size]
theorem strB_inj {a b : List UInt8} (h : strB a = strB b) : a = b := by
  have := congrArg (fun s : ByteArray => s.data.toList) h
  simpa [strB] using this
theorem strB_list (bs : List UInt8) : (strB bs).toList = bs := by rw [ByteArray.toList_eq]; rfl
theorem strB_toList (s : ByteArray) : strB s.data.toList = s := by simp [strB]

theorem strB_at (l : List UInt8) (i : Nat) (h : i < (strB l).size) : (((strB l)[i]'h).toNat : Int) = at8 l i := by
  have h' : i < l.length := by rw [strB_size] at h; exact h
  rw [at8_get h']
  rfl

theorem run_str {P : Program} {w : World} {a : Option Addr} {cap : Nat} {bs : List UInt8} (hr : Rd w a cap bs) {src dst e : TypeId}
    (hs : P.underlying src = some (.slice e)) (he : P.underlying e = some (.int .u8)) (hd : P.underlying dst = some .string) :
    (convert src dst (.slice a bs.length cap)).run P w = .ok (.string (strB bs)) w := by
  by_cases h0 : 0 < bs.length
  · obtain ⟨b, o, rfl, hc⟩ := hr.2.2.2 h0
    rw [run_convert_bytes_arg w src e hs he b o bs.length cap (bs.map fun x => (x.toNat : Int)) (by simp) (fun i hi => by rw [hc i hi, at8_get hi]; simp [hi]) dst hd]
    congr 2
    have hid : (fun n : Int => UInt8.ofNat n.toNat) ∘ (fun x : UInt8 => (x.toNat : Int)) = id := by funext x; simp
    simp [strOfNums, strB, hid]
  · have e0 : bs = [] := List.length_eq_zero_iff.1 (by omega)
    subst e0
    cases a with
    | none => exact run_convert_bytes_nil w src e hs he 0 cap dst hd
    | some x =>
      rw [show ([] : List UInt8).length = 0 from rfl, run_convert_bytes_string w src dst e _ 0 cap hs he hd, run_bytesToString w x 0 cap [] (by simpa using run_loadCells_list (P := P) w x [] (fun j v hj => by simp at hj))]
      rfl

/-- What '[]byte(s)' makes: its room and its world. -/
def bytesC (w : World) (l : List UInt8) : Nat := grownCap w (strB l).size 0 5
def bytesW (w : World) (l : List UInt8) : World := w.drew.alloc (.cells (bytesRow (strB l) (bytesC w l)) 5 ((bytesRow (strB l) (bytesC w l)).size, (bytesRow (strB l) (bytesC w l)).size + 1))
theorem run_bytes {P : Program} {src dst : TypeId} (hs : P.underlying src = some .string) (hd : P.underlying dst = some (.slice 5)) (he : P.underlying 5 = some (.int .u8)) (l : List UInt8) (w : World) :
    (convert src dst (.string (strB l))).run P w = .ok (.slice (some ⟨w.heap.size, 0, none⟩) l.length (bytesC w l)) (bytesW w l) := by
  rw [run_bytes_of_string w src dst 5 (strB l) hs hd he, strB_size]
  rfl
theorem bytesW_below (w : World) (l : List UInt8) : Below w.heap.size w (bytesW w l) := (Below.refl _ _).drew.alloc (Nat.le_refl _) _
theorem bytesW_rd (w : World) (l : List UInt8) (hm : l.length ≤ maxLen) : Rd (bytesW w l) (some ⟨w.heap.size, 0, none⟩) (bytesC w l) l := by
  refine ⟨?_, ?_, fun h => by simp at h, fun _ => ⟨w.heap.size, 0, rfl, fun i hi => ?_⟩⟩
  · have := grownCap_ge w (strB l).size 0 5
    rw [strB_size] at this
    unfold bytesC
    rw [strB_size]
    exact this
  · exact grownCap_le_maxLen _ _ _ _ (by rw [strB_size]; exact hm)
  · have h := World.cell?_alloc_mark w.drew (bytesRow (strB l) (bytesC w l)) 5 ((bytesRow (strB l) (bytesC w l)).size, (bytesRow (strB l) (bytesC w l)).size + 1) i
    rw [Nat.zero_add]
    refine h.trans ?_
    rw [bytesRow_at _ _ _ (by simpa [strB] using hi), at8_get hi]
    rfl

end Go.Proofs.YtflhoefocjmihaaGreatDoor

/- The digits of bytes, with no program in it. -/
namespace Go.Proofs.YtflhoefocjmihaaGreatDoor
open Go.RowKit

def hexAll : List UInt8 := [48, 49, 50, 51, 52, 53, 54, 55, 56, 57, 97, 98, 99, 100, 101, 102]
def hexD (v : Int) : UInt8 := hexAll.getD v.toNat 0
def hexL (bs : List UInt8) : List UInt8 := bs.flatMap fun b => [hexD (b.toNat / 16), hexD (b.toNat % 16)]
theorem hexL_len (bs : List UInt8) : (hexL bs).length = 2 * bs.length := by
  induction bs with
  | nil => rfl
  | cons b bs ih => simp only [hexL, List.flatMap_cons, List.length_append, List.length_cons, List.length_nil] at ih ⊢; omega
theorem hexL_take (bs : List UInt8) (k : Nat) (h : k < bs.length) : hexL (bs.take (k + 1)) = hexL (bs.take k) ++ [hexD (at8 bs k / 16)] ++ [hexD (at8 bs k % 16)] := by
  rw [List.take_succ_eq_append_getElem h, at8_get h]
  unfold hexL
  rw [List.flatMap_append, List.append_assoc]
  rfl

theorem run_add {P : Program} (x y : List UInt8) (h : x.length + y.length ≤ 9223372036854775807) (w : World) :
    (Op.stringOp .add (strB x) (strB y)).run P w = .ok (.string (strB (x ++ y))) w := by
  rw [run_string_add_sum w _ _ (by rw [strB_size, strB_size]; exact h)]
  unfold strB
  rw [ByteArray.mk_append_mk]

theorem cell_one_new (w : World) (a : Value) (t : TypeId) : ∀ j u, [a][j]? = some u → (w.alloc (.cells #[a] t)).cell? ((⟨w.heap.size, 0, none⟩ : Addr).add j) = some u := by
  intro j u hj
  match j, hj with
  | 0, hj => simp at hj; subst hj; simp [Addr.add]
  | j + 1, hj => simp at hj
theorem own_two {w : World} {B : Nat} {v : Value} {x : List UInt8} {a b : UInt8} (h : w.ownsRow B 5 1 v (x.length + 2) (x.map u8v ++ [.int .u8 a.toNat, .int .u8 b.toNat])) : Own w B v (x ++ [a] ++ [b]) := by
  unfold Own
  rw [show (x ++ [a] ++ [b]).length = x.length + 2 by simp, show (x ++ [a] ++ [b]).map u8v = x.map u8v ++ [.int .u8 a.toNat, .int .u8 b.toNat] by simp [u8v]]
  exact h
theorem own_one {w : World} {B : Nat} {v : Value} {x : List UInt8} {a : UInt8} (h : w.ownsRow B 5 1 v (x.length + 1) (x.map u8v ++ [.int .u8 a.toNat])) : Own w B v (x ++ [a]) := by
  unfold Own
  rw [show (x ++ [a]).length = x.length + 1 by simp, show (x ++ [a]).map u8v = x.map u8v ++ [.int .u8 a.toNat] by simp [u8v]]
  exact h

end Go.Proofs.YtflhoefocjmihaaGreatDoor

/- Numbers as bytes, with no program in it: putB v k: the k lowest bytes of v, the highest one first; getB: the number that bytes are. -/
namespace Go.Proofs.YtflhoefocjmihaaGreatDoor
open Go.RowKit

def putB (v : Nat) : Nat → List UInt8
  | 0 => []
  | k + 1 => UInt8.ofNat (v / 256 ^ k % 256) :: putB v k
theorem putB_len (v k : Nat) : (putB v k).length = k := by
  induction k with
  | zero => rfl
  | succ k ih => simp [putB, ih]
/-- What a loop that fills a row from its last element on has laid behind k rounds. -/
def tailed (v n k : Nat) : List Value := List.replicate (n - k) (.int .u8 0) ++ (putB v k).map u8v
theorem tailed_zero (v n : Nat) : tailed v n 0 = List.replicate n (.int .u8 0) := by simp [tailed, putB]
theorem tailed_all (v n : Nat) : tailed v n n = (putB v n).map u8v := by simp [tailed]
theorem tailed_len (v n k : Nat) (h : k ≤ n) : (tailed v n k).length = n := by simp [tailed, putB_len]; omega
theorem tailed_at (v n k : Nat) (h : k < n) : (tailed v n k)[n - 1 - k]? = some (.int .u8 0) := by
  unfold tailed
  rw [List.getElem?_append_left (by simp; omega), List.getElem?_replicate, if_pos (by omega)]
theorem tailed_set (v n k : Nat) (h : k < n) : (tailed v n k).set (n - 1 - k) (.int .u8 ((v / 256 ^ k % 256 : Nat) : Int)) = tailed v n (k + 1) := by
  have e : u8v (UInt8.ofNat (v / 256 ^ k % 256)) = .int .u8 ((v / 256 ^ k % 256 : Nat) : Int) := by
    unfold u8v; rw [UInt8.toNat_ofNat', Nat.mod_mod]
  unfold tailed
  rw [show n - k = (n - (k + 1)) + 1 by omega, List.replicate_succ', List.append_assoc, List.set_append_right _ _ (by simp; omega)]
  rw [List.length_replicate, show n - 1 - k - (n - (k + 1)) = 0 by omega]
  simp only [putB, List.map_cons, e]
  rfl

def getB (bs : List UInt8) : Nat := bs.foldl (fun n b => n * 256 + b.toNat) 0
theorem getB_snoc (bs : List UInt8) (b : UInt8) : getB (bs ++ [b]) = getB bs * 256 + b.toNat := by simp [getB]
theorem getB_take (bs : List UInt8) (k : Nat) (h : k < bs.length) : ((getB (bs.take (k + 1)) : Nat) : Int) = (getB (bs.take k) : Int) * 256 + at8 bs k := by
  rw [List.take_succ_eq_append_getElem h, getB_snoc, at8_get h]; omega
theorem getB_lt (bs : List UInt8) : getB bs < 256 ^ bs.length := by
  suffices h : ∀ (bs : List UInt8) (m k : Nat), m < 256 ^ k → bs.foldl (fun n b => n * 256 + b.toNat) m < 256 ^ (k + bs.length) by
    have := h bs 0 0 (by decide); simpa [getB] using this
  intro bs
  induction bs with
  | nil => intro m k hm; simpa using hm
  | cons b bs ih =>
    intro m k hm
    have hb := b.toNat_lt
    have := ih (m * 256 + b.toNat) (k + 1) (by rw [Nat.pow_succ]; omega)
    rw [List.foldl_cons, List.length_cons, show k + (bs.length + 1) = k + 1 + bs.length by omega]
    exact this
theorem getB_take_lt (bs : List UInt8) (k : Nat) (h : k ≤ 4) : getB (bs.take k) < 4294967296 :=
  Nat.lt_of_lt_of_le (getB_lt _) (Nat.le_trans (Nat.pow_le_pow_right (by decide) (Nat.le_trans (List.length_take_le _ _) h)) (by decide))
theorem getB_take_lt3 (bs : List UInt8) (k : Nat) (h : k ≤ 3) : getB (bs.take k) < 16777216 :=
  Nat.lt_of_lt_of_le (getB_lt _) (Nat.le_trans (Nat.pow_le_pow_right (by decide) (Nat.le_trans (List.length_take_le _ _) h)) (by decide))
/-- The program's step: shifted by eight bits, and the byte laid in. -/
theorem or_step (m : Nat) (b : Int) (hm : m < 16777216) (h0 : 0 ≤ b) (h1 : b ≤ 255) : bits .or .u32 ((m : Int) * 256) b = (m : Int) * 256 + b := by
  obtain ⟨b, rfl⟩ := Int.eq_ofNat_of_zero_le h0
  have h2 : b < 2 ^ 8 := by omega
  rw [show ((m : Int) * 256) = ((m * 256 : Nat) : Int) by omega, u32_or_nat _ _ (by omega) (by omega), show m * 256 = m <<< 8 by rw [Nat.shiftLeft_eq], ← Nat.shiftLeft_add_eq_or_of_lt h2, Nat.shiftLeft_eq]
  omega

theorem getB_put4 (v : Nat) (h : v < 4294967296) : getB (putB v 4) = v := by
  have e4 : putB v 4 = [UInt8.ofNat (v / 16777216 % 256), UInt8.ofNat (v / 65536 % 256), UInt8.ofNat (v / 256 % 256), UInt8.ofNat (v / 1 % 256)] := rfl
  rw [e4]
  simp only [getB, List.foldl_cons, List.foldl_nil, UInt8.toNat_ofNat']
  omega

end Go.Proofs.YtflhoefocjmihaaGreatDoor

/- Chapter 2 as plain functions on numbers and bytes, with no program in it: a round (roundN), the words of a block (spreadN), what is padded (padN), the digest (digestN); their bounds and lengths. No conditions but those in each line. -/
namespace Go.Proofs.YtflhoefocjmihaaGreatDoor
open Go.RowKit

/-- Eight words. -/
structure S8 where
  a : Nat
  b : Nat
  c : Nat
  d : Nat
  e : Nat
  f : Nat
  g : Nat
  h : Nat
def S8.list (s : S8) : List Nat := [s.a, s.b, s.c, s.d, s.e, s.f, s.g, s.h]
def S8.ok (s : S8) : Prop := s.a < 4294967296 ∧ s.b < 4294967296 ∧ s.c < 4294967296 ∧ s.d < 4294967296 ∧ s.e < 4294967296 ∧ s.f < 4294967296 ∧ s.g < 4294967296 ∧ s.h < 4294967296

def rot3 (x i j k : Nat) : Nat := rotN x i ^^^ rotN x j ^^^ rotN x k
def sh2 (x i j k : Nat) : Nat := rotN x i ^^^ rotN x j ^^^ (x / 2 ^ k)
def chN (e f g : Nat) : Nat := (e &&& f) ^^^ ((4294967295 - e) &&& g)
def majN (a b c : Nat) : Nat := (a &&& b) ^^^ (a &&& c) ^^^ (b &&& c)
def t1N (s : S8) (word key : Nat) : Nat := (s.h + rot3 s.e 6 11 25 + chN s.e s.f s.g + key + word) % 4294967296
def t2N (s : S8) : Nat := (rot3 s.a 2 13 22 + majN s.a s.b s.c) % 4294967296
def roundN (s : S8) (word key : Nat) : S8 :=
  ⟨(t1N s word key + t2N s) % 4294967296, s.a, s.b, s.c, (s.d + t1N s word key) % 4294967296, s.e, s.f, s.g⟩

theorem xor_lt32 {a b : Nat} (h : a < 4294967296) (k : b < 4294967296) : a ^^^ b < 4294967296 := Nat.xor_lt_two_pow (n := 32) h k
theorem and_lt32 {a b : Nat} (h : a < 4294967296) : a &&& b < 4294967296 := Nat.lt_of_le_of_lt Nat.and_le_left h
theorem rot3_lt {x i j k : Nat} (h : x < 4294967296) (hi : i ≤ 32) (hj : j ≤ 32) (hk : k ≤ 32) : rot3 x i j k < 4294967296 :=
  xor_lt32 (xor_lt32 (rotN_lt x i h hi) (rotN_lt x j h hj)) (rotN_lt x k h hk)
theorem sh2_lt {x i j k : Nat} (h : x < 4294967296) (hi : i ≤ 32) (hj : j ≤ 32) : sh2 x i j k < 4294967296 :=
  xor_lt32 (xor_lt32 (rotN_lt x i h hi) (rotN_lt x j h hj)) (Nat.lt_of_le_of_lt (Nat.div_le_self _ _) h)
theorem chN_lt {e f g : Nat} (h : e < 4294967296) : chN e f g < 4294967296 := xor_lt32 (and_lt32 h) (and_lt32 (by omega))
theorem majN_lt {a b c : Nat} (h : a < 4294967296) (k : b < 4294967296) : majN a b c < 4294967296 := xor_lt32 (xor_lt32 (and_lt32 h) (and_lt32 h)) (and_lt32 k)
theorem mod32_lt (x : Nat) : x % 4294967296 < 4294967296 := Nat.mod_lt _ (by decide)
theorem roundN_ok {s : S8} {word key : Nat} (h : s.ok) : (roundN s word key).ok :=
  ⟨mod32_lt _, h.1, h.2.1, h.2.2.1, mod32_lt _, h.2.2.2.2.1, h.2.2.2.2.2.1, h.2.2.2.2.2.2.1⟩

/-- The first sixteen words of a block are its bytes. -/
def word4 (bs : List UInt8) (i : Nat) : Nat := getB ((bs.drop (4 * i)).take 4)
theorem word4_lt (bs : List UInt8) (i : Nat) : word4 bs i < 4294967296 :=
  Nat.lt_of_lt_of_le (getB_lt _) (Nat.le_trans (Nat.pow_le_pow_right (by decide) (List.length_take_le 4 _)) (by decide))
def first16 (bs : List UInt8) : List Nat := (List.range 16).map (word4 bs)
def nextW (ws : List Nat) : Nat := (sh2 (ws.getD (ws.length - 2) 0) 17 19 10 + ws.getD (ws.length - 7) 0 + sh2 (ws.getD (ws.length - 15) 0) 7 18 3 + ws.getD (ws.length - 16) 0) % 4294967296
def moreW (ws : List Nat) : Nat → List Nat
  | 0 => ws
  | k + 1 => moreW ws k ++ [nextW (moreW ws k)]
def spreadN (bs : List UInt8) : List Nat := moreW (first16 bs) 48
theorem moreW_len (ws : List Nat) (k : Nat) : (moreW ws k).length = ws.length + k := by
  induction k with
  | zero => rfl
  | succ k ih => simp [moreW, ih]; omega
theorem first16_len (bs : List UInt8) : (first16 bs).length = 16 := by simp [first16]
theorem spreadN_len (bs : List UInt8) : (spreadN bs).length = 64 := by rw [spreadN, moreW_len, first16_len]
def Words (ws : List Nat) : Prop := ∀ x ∈ ws, x < 4294967296
theorem Words.getD {ws : List Nat} (h : Words ws) (i : Nat) : ws.getD i 0 < 4294967296 := by
  rw [List.getD_eq_getElem?_getD]
  cases e : ws[i]? with
  | none => simp
  | some x => simpa using h x (List.mem_of_getElem? e)
theorem Words.append {a b : List Nat} (h : Words a) (k : Words b) : Words (a ++ b) := fun x hx => (List.mem_append.1 hx).elim (h x) (k x)
theorem first16_ok (bs : List UInt8) : Words (first16 bs) := fun x hx => by
  obtain ⟨i, -, rfl⟩ := List.mem_map.1 hx; exact word4_lt bs i
theorem moreW_ok {ws : List Nat} (h : Words ws) (k : Nat) : Words (moreW ws k) := by
  induction k with
  | zero => exact h
  | succ k ih => exact ih.append (fun x hx => by rw [List.mem_singleton.1 hx]; exact mod32_lt _)
theorem spreadN_ok (bs : List UInt8) : Words (spreadN bs) := moreW_ok (first16_ok bs) 48

/-- What is padded. -/
def gap (n : Nat) : Nat := (119 - n % 64) % 64
def padN (bs : List UInt8) : List UInt8 := bs ++ 128 :: (zs (gap bs.length) ++ putB (8 * bs.length) 8)
theorem padN_len (bs : List UInt8) : (padN bs).length = bs.length + 9 + gap bs.length := by simp [padN, zs_len, putB_len]; omega
theorem padN_len64 (bs : List UInt8) : (padN bs).length = (bs.length + 72) / 64 * 64 := by rw [padN_len]; unfold gap; omega

def keysN : List Nat := [0x428a2f98, 0x71374491, 0xb5c0fbcf, 0xe9b5dba5, 0x3956c25b, 0x59f111f1, 0x923f82a4, 0xab1c5ed5, 0xd807aa98, 0x12835b01, 0x243185be, 0x550c7dc3, 0x72be5d74, 0x80deb1fe, 0x9bdc06a7, 0xc19bf174, 0xe49b69c1, 0xefbe4786, 0x0fc19dc6, 0x240ca1cc, 0x2de92c6f, 0x4a7484aa, 0x5cb0a9dc, 0x76f988da, 0x983e5152, 0xa831c66d, 0xb00327c8, 0xbf597fc7, 0xc6e00bf3, 0xd5a79147, 0x06ca6351, 0x14292967, 0x27b70a85, 0x2e1b2138, 0x4d2c6dfc, 0x53380d13, 0x650a7354, 0x766a0abb, 0x81c2c92e, 0x92722c85, 0xa2bfe8a1, 0xa81a664b, 0xc24b8b70, 0xc76c51a3, 0xd192e819, 0xd6990624, 0xf40e3585, 0x106aa070, 0x19a4c116, 0x1e376c08, 0x2748774c, 0x34b0bcb5, 0x391c0cb3, 0x4ed8aa4a, 0x5b9cca4f, 0x682e6ff3, 0x748f82ee, 0x78a5636f, 0x84c87814, 0x8cc70208, 0x90befffa, 0xa4506ceb, 0xbef9a3f7, 0xc67178f2]
def startN : S8 := ⟨0x6a09e667, 0xbb67ae85, 0x3c6ef372, 0xa54ff53a, 0x510e527f, 0x9b05688c, 0x1f83d9ab, 0x5be0cd19⟩
theorem startN_ok : startN.ok := by unfold S8.ok startN; decide
theorem keysN_ok : Words keysN := by unfold Words keysN; decide

/-- So many rounds over a block's words. -/
def roundsN (ws : List Nat) (s : S8) : Nat → S8
  | 0 => s
  | k + 1 => roundN (roundsN ws s k) (ws.getD k 0) (keysN.getD k 0)
theorem roundsN_ok (ws : List Nat) {s : S8} (h : s.ok) (k : Nat) : (roundsN ws s k).ok := by
  induction k with
  | zero => exact h
  | succ k ih => exact roundN_ok ih
def addS (s t : S8) : S8 := ⟨(s.a + t.a) % 4294967296, (s.b + t.b) % 4294967296, (s.c + t.c) % 4294967296, (s.d + t.d) % 4294967296, (s.e + t.e) % 4294967296, (s.f + t.f) % 4294967296, (s.g + t.g) % 4294967296, (s.h + t.h) % 4294967296⟩
theorem addS_ok (s t : S8) : (addS s t).ok := ⟨mod32_lt _, mod32_lt _, mod32_lt _, mod32_lt _, mod32_lt _, mod32_lt _, mod32_lt _, mod32_lt _⟩
def blockN (s : S8) (bs : List UInt8) : S8 := addS s (roundsN (spreadN bs) s 64)
def blocksN (bs : List UInt8) : Nat → S8
  | 0 => startN
  | k + 1 => blockN (blocksN bs k) ((bs.drop (64 * k)).take 64)
theorem blocksN_ok (bs : List UInt8) (k : Nat) : (blocksN bs k).ok := by
  cases k with
  | zero => exact startN_ok
  | succ k => exact addS_ok _ _
def stateB (s : S8) : List UInt8 := putB s.a 4 ++ putB s.b 4 ++ putB s.c 4 ++ putB s.d 4 ++ putB s.e 4 ++ putB s.f 4 ++ putB s.g 4 ++ putB s.h 4
theorem stateB_len (s : S8) : (stateB s).length = 32 := by simp [stateB, putB_len]
def digestN (bs : List UInt8) : List UInt8 := stateB (blocksN (padN bs) ((bs.length + 72) / 64))
theorem digestN_len (bs : List UInt8) : (digestN bs).length = 32 := stateB_len _

/-- Numbers in memory: words in int64, words in uint32. -/
def i64v (n : Nat) : Value := .int .i64 (n : Int)
def u32v (n : Nat) : Value := .int .u32 (n : Int)
def S8.i64 (s : S8) : Array Value := #[.int .i64 (s.a : Int), .int .i64 (s.b : Int), .int .i64 (s.c : Int), .int .i64 (s.d : Int), .int .i64 (s.e : Int), .int .i64 (s.f : Int), .int .i64 (s.g : Int), .int .i64 (s.h : Int)]
def S8.u32 (s : S8) : Array Value := #[.int .u32 (s.a : Int), .int .u32 (s.b : Int), .int .u32 (s.c : Int), .int .u32 (s.d : Int), .int .u32 (s.e : Int), .int .u32 (s.f : Int), .int .u32 (s.g : Int), .int .u32 (s.h : Int)]

end Go.Proofs.YtflhoefocjmihaaGreatDoor

