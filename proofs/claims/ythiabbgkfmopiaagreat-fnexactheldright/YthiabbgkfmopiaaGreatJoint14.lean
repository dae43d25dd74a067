/- The contract of bytes.Clone: a copy in a row of its own. What was there stays. -/
import Derived.Test.YthiabbgkfmopiaaGreatJoint13
import Derived.Handy
import Derived.Test.YthiabbgkfmopiaaGreatJoint12
import Derived.Great.BuildSlice
import Derived.Test.YthiabbgkfmopiaaGreatJoint3
import Derived.Test.YthiabbgkfmopiaaGreatJoint4
namespace Go.Proofs.YthiabbgkfmopiaaGreat
open Go.ChangeShapes Go.WideShapes Go.ChangeAt Go.RowKit

end Go.Proofs.YthiabbgkfmopiaaGreat

/- The contracts of the digest in the specification: spec.l2Keys, spec.l2Start, spec.l2Digest: the answer is digestN, in a row of its own. For at most 600 bytes. -/
namespace Go.Proofs.YthiabbgkfmopiaaGreat
open Go.ChangeShapes Go.WideShapes Go.ChangeAt Go.RowKit

/-- A whole array read in a region that draws its order: the same cells in every world of the class. -/
theorem wpQuiet_load_row {P : Program} {ops : Array Oper} {C : World → Prop} {Q : Act → Prop} {a : Act} {o : Oper} {rest : List Oper} (hgd : o.guard = none) (ty : TypeId) (x : Operand) (ho : o.op = .load ty x)
    (g : Nat) (hx : a.eval x = .pointer (some ⟨g, 0, none⟩)) (t : TypeId) (cs : Array Value) (fr : Nat × Nat) (d : TypeDesc) (hg : ∀ w, C w → w.heap[g]? = some (.cells cs t fr))
    (hu : P.underlying ty = some d) (hd : (match d with | .struct _ | .array _ _ => true | _ => false) = true) (hi : (P.info? ty).map (·.size) = some cs.size)
    (h : wpQuiet P ops C Q rest (a.put o.dst (.agg cs))) : wpQuiet P ops C Q (o :: rest) a := by
  unfold wpQuiet
  rw [if_pos (by simp [Region.wanted, hgd])]
  refine ⟨.agg cs, fun w hw => ?_, h⟩
  unfold Oper.quietAt execOp
  simp only [ho, hx, Instr.loadAt, Instr.sureAddr, Sem.run_bind, Sem.run_pure, Result.andThen_ok, run_loadVar_row w g t ty cs fr d (hg w hw) hu hd hi]
  exact ⟨rfl, rfl⟩

/-- wp_region_tail, what the last operation is asked behind a variable. -/
theorem wp_region_tail_z {P : Program} {ops : Array Oper} {C : World → Prop} {Q : Exit → Act → World → Prop} {a : Act} {w : World} {id : Nat} (n : Nat) {o : Oper} (hn : ops.size = n + 1) (ho : ops[n]? = some o) (hgd : o.guard = none)
    (hm : P.follows .mixedOrders = true) (hs : Region.noSelect ops = true) (hB : lexT .any ops n 0 (Array.replicate ops.size false) = true) (hw : waitsAll .any ops n = true) (hC : C { w with drawn := w.drawn + 1 })
    (h : ∀ Z : Act → Prop, (∀ a', (∀ w', C w' → ∀ K : Act → World → Prop, (∀ a'' w'', Q .normal a'' w'' → K a'' w'') → o.wp P a' w' K Q) → Z a') → wpQuiet P ops C Z (ops.toList.take n) a) : (Code.region id ops true).wp P Q a w :=
  wp_region_tail n hn ho hgd hm hs hB hw hC (h _ (fun _ h => h))

def keysI : List Int := keysN.map Int.ofNat
def keysV : List Value := keysI.map (Value.int .i64)
theorem keysV_at {i : Nat} (h : i < 64) : keysV[i]? = some (.int .i64 (keysN.getD i 0 : Nat)) := by
  have hl : i < keysN.length := h
  simp [keysV, keysI, hl]
theorem keysV_len : keysV.length = 64 := rfl


theorem sizes_i (s t : S8) : (s.list.map i64v).toArray.size = t.i64.size := rfl
theorem cells_i (s : S8) : s.i64.all (·.oneCell') = true := by simp [S8.i64]; exact ⟨rfl, rfl, rfl, rfl, rfl, rfl, rfl, rfl⟩
theorem blocksN_succ (bs : List UInt8) (k : Nat) : blocksN bs (k + 1) = addS (blocksN bs k) (roundsN (spreadN ((bs.drop (64 * k)).take 64)) (blocksN bs k) 64) := rfl
theorem roundsN_succ (ws : List Nat) (s : S8) (k : Nat) : roundsN ws s (k + 1) = roundN (roundsN ws s k) (ws.getD k 0) (keysN.getD k 0) := rfl
theorem S8.i64_eq (s : S8) : s.i64 = (s.list.map i64v).toArray := rfl


/-- What a loop that adds t to s word by word has laid behind j rounds. -/
def addV (f : Nat → Value) (s t : S8) (j : Nat) : List Value := (List.range 8).map fun i => f (if i < j then (s.list.getD i 0 + t.list.getD i 0) % 4294967296 else s.list.getD i 0)
theorem addV_zero (f : Nat → Value) (s t : S8) : addV f s t 0 = s.list.map f := rfl
theorem addV_all (f : Nat → Value) (s t : S8) : addV f s t 8 = (addS s t).list.map f := rfl
theorem lt8 {j : Nat} (h : j < 8) : j = 0 ∨ j = 1 ∨ j = 2 ∨ j = 3 ∨ j = 4 ∨ j = 5 ∨ j = 6 ∨ j = 7 := by omega
theorem addV_set (f : Nat → Value) (s t : S8) {j : Nat} (h : j < 8) : (addV f s t j).set j (f ((s.list.getD j 0 + t.list.getD j 0) % 4294967296)) = addV f s t (j + 1) := by
  rcases lt8 h with rfl | rfl | rfl | rfl | rfl | rfl | rfl | rfl <;> rfl
theorem addV_at (f : Nat → Value) (s t : S8) {j : Nat} (h : j < 8) : (addV f s t j)[j]? = some (f (s.list.getD j 0)) := by
  rcases lt8 h with rfl | rfl | rfl | rfl | rfl | rfl | rfl | rfl <;> rfl
theorem listV_at (f : Nat → Value) (s : S8) {j : Nat} (h : j < 8) : (s.list.map f)[j]? = some (f (s.list.getD j 0)) := by
  rcases lt8 h with rfl | rfl | rfl | rfl | rfl | rfl | rfl | rfl <;> rfl

/-- The bytes of the first words. -/
def takeB (xs : List Nat) (j : Nat) : List UInt8 := (xs.take j).flatMap (fun x => putB x 4)
theorem takeB_zero (xs : List Nat) : takeB xs 0 = [] := rfl
theorem takeB_len (s : S8) {j : Nat} (h : j ≤ 8) : (takeB s.list j).length = 4 * j := by
  rcases (show j < 8 ∨ j = 8 by omega) with h | rfl
  · rcases lt8 h with rfl | rfl | rfl | rfl | rfl | rfl | rfl | rfl <;> simp [takeB, S8.list, putB_len]
  · simp [takeB, S8.list, putB_len]
theorem takeB_succ (s : S8) {j : Nat} (h : j < 8) : takeB s.list j ++ putB (s.list.getD j 0) 4 = takeB s.list (j + 1) := by
  rcases lt8 h with rfl | rfl | rfl | rfl | rfl | rfl | rfl | rfl <;> simp [takeB, S8.list]
theorem takeB_all (s : S8) : takeB s.list 8 = stateB s := by simp [takeB, stateB, S8.list]
theorem padN_len_n (bs : List UInt8) : (padN bs).length = 64 * ((bs.length + 72) / 64) := by rw [padN_len64]; omega

end Go.Proofs.YthiabbgkfmopiaaGreat

/- The contracts of the macs in the specification: spec.l3Block, spec.l3Mac, spec.l3Extract, spec.l3Expand: blockK, macN, extractN, expandN, each in a row of its own. For keys of at most 64 bytes. What was there stays. -/
namespace Go.Proofs.YthiabbgkfmopiaaGreat
open Go.ChangeShapes Go.WideShapes Go.ChangeAt Go.RowKit

/-- What a loop that changes bytes from the first one on has laid behind j rounds. -/
def xorP (ks : List UInt8) (x : UInt8) (j : Nat) : List UInt8 := (ks.take j).map (· ^^^ x) ++ ks.drop j
theorem xorP_zero (ks : List UInt8) (x : UInt8) : xorP ks x 0 = ks := by simp [xorP]
theorem xorP_all (ks : List UInt8) (x : UInt8) : xorP ks x ks.length = ks.map (· ^^^ x) := by simp [xorP]
theorem xorP_at (ks : List UInt8) (x : UInt8) {j : Nat} (h : j < ks.length) : ((xorP ks x j).map u8v)[j]? = some (.int .u8 (at8 ks j)) := by
  unfold xorP
  rw [List.map_append, List.getElem?_append_right (by simp; omega)]
  simp [u8v, at8, h, show min j ks.length = j by omega]
theorem xorP_set (ks : List UInt8) (x : UInt8) {j : Nat} (h : j < ks.length) : ((xorP ks x j).map u8v).set j (u8v (ks.getD j 0 ^^^ x)) = (xorP ks x (j + 1)).map u8v := by
  have hl : (((ks.take j).map (· ^^^ x)).map u8v).length = j := by simp; omega
  have hg : ks.getD j 0 = ks[j] := by simp [h]
  unfold xorP
  rw [List.map_append, List.set_append_right _ _ (by omega), hl, Nat.sub_self, List.drop_eq_getElem_cons h, List.map_cons, List.set_cons_zero, List.take_succ_eq_append_getElem h, hg]
  simp only [List.map_append, List.map_cons, List.map_nil, List.append_assoc, List.cons_append, List.nil_append]
theorem u8_xor8 (a b : UInt8) : bits .xor .u8 (a.toNat : Int) (b.toNat : Int) = ((a ^^^ b).toNat : Int) := by
  rw [u8_xor_nat _ _ a.toNat_lt b.toNat_lt, UInt8.toNat_xor]
def keyZ (key : List UInt8) : List UInt8 := key ++ zs (64 - key.length)
theorem keyZ_len {key : List UInt8} (h : key.length ≤ 64) : (keyZ key).length = 64 := by simp [keyZ, zs_len]; omega
theorem blockK_eq (key : List UInt8) (x : UInt8) : blockK key x = (keyZ key).map (· ^^^ x) := rfl
theorem keyStart {w : World} {g : Nat} {t : TypeId} {key : List UInt8} (h : Hid (w.heap[g]? = some (.cells (splice ((zs 64).map u8v) 0 (key.map u8v)).toArray t (0, 0)))) : Arr w g t ((keyZ key).map u8v) := by
  have e : splice ((zs 64).map u8v) 0 (key.map u8v) = (keyZ key).map u8v := by
    simp only [splice, List.take_zero, List.nil_append, Nat.zero_add, List.length_map, keyZ, List.map_append, zs, ← List.map_drop, List.drop_replicate]
  unfold Arr
  rw [← e]
  exact h.out




/-- The beginning of a row of one's own. -/
theorem Own.cut {w : World} {B : Nat} {a : Option Addr} {m cap : Nat} {bs : List UInt8} (h : Own w B (.slice a m cap) bs) (k : Nat) (hk : k ≤ bs.length) : Own w B (.slice a k cap) (bs.take k) := by
  have hl : (bs.take k).length = k := by simp; omega
  obtain ⟨h1, h2⟩ := h
  unfold Own
  rw [hl]
  refine ⟨by simp; omega, ?_⟩
  rcases h2 with ⟨e, hn⟩ | ⟨g, c, cur, e, hB, hg, hle, hm, hs, ht⟩
  · simp at e
    obtain ⟨rfl, rfl, rfl⟩ := e
    have : k = 0 := by omega
    subst this
    exact .inl ⟨rfl, rfl⟩
  · simp at e
    obtain ⟨rfl, -, rfl⟩ := e
    refine .inr ⟨g, cap, cur, rfl, hB, hg, by omega, hm, hs, ?_⟩
    rw [Nat.mul_one] at ht ⊢
    rw [List.map_take, ← ht, List.take_take, Nat.min_eq_left hk]

end Go.Proofs.YthiabbgkfmopiaaGreat

/- The contracts of labels in the specification: spec.l3Label, spec.l3LabelBytes, spec.l3LabelFault, spec.l3ExpandLabel, spec.l3Derive. What was there stays. -/
namespace Go.Proofs.YthiabbgkfmopiaaGreat
open Go.ChangeShapes Go.WideShapes Go.ChangeAt Go.RowKit

def charOk (b : UInt8) : Bool := decide (32 ≤ b.toNat) && decide (b.toNat ≤ 126)
theorem labelOk_eq (l : List UInt8) : labelOk l = (l.all charOk && inB (l.length : Int) 1 40) := by
  unfold labelOk charOk inB
  rw [Bool.and_assoc]
  congr 1
  simp only [decide_eq_decide.2 (show 1 ≤ l.length ↔ (1 : Int) ≤ (l.length : Int) by omega), decide_eq_decide.2 (show l.length ≤ 40 ↔ (l.length : Int) ≤ 40 by omega), Bool.decide_and]
theorem charOk_at {l : List UInt8} {j : Nat} (h : j < l.length) : charOk l[j] = (decide (32 ≤ at8 l j) && decide (at8 l j ≤ 126)) := by
  rw [at8_get h]
  unfold charOk
  simp only [decide_eq_decide.2 (show 32 ≤ l[j].toNat ↔ (32 : Int) ≤ (l[j].toNat : Int) by omega), decide_eq_decide.2 (show l[j].toNat ≤ 126 ↔ (l[j].toNat : Int) ≤ 126 by omega)]
theorem all_take_succ {l : List UInt8} {j : Nat} (h : j < l.length) : (l.take (j + 1)).all charOk = ((l.take j).all charOk && charOk l[j]) := by
  rw [List.take_succ_eq_append_getElem h, List.all_append]
  simp
theorem all_of_take {l : List UInt8} {j : Nat} (h : j < l.length) (hb : charOk l[j] = false) : l.all charOk = false := by
  rw [List.all_eq_false]
  exact ⟨l[j], List.getElem_mem h, by simp [hb]⟩


/-- The code of a label, a context and a number. -/
def labelC (l ctx : List UInt8) (n : Int) : Int := if labelOk l then (if ctx.length ≤ 100 then (if inB n 0 255 then 0 else 3) else 2) else 5


theorem tls13_str : (⟨#[116, 108, 115, 49, 51, 32]⟩ : ByteArray) = strB tls13 := rfl
theorem labelB_eq (l ctx : List UInt8) (n : Nat) : labelB l ctx n = putB n 2 ++ [UInt8.ofNat (6 + l.length)] ++ (tls13 ++ l) ++ [UInt8.ofNat ctx.length] ++ ctx := by simp [labelB]


def expLabN (key l ctx : List UInt8) (n : Nat) : List UInt8 := expandN key (labelB l ctx n) n
def deriveN (key l data : List UInt8) : List UInt8 := expLabN key l (digestN data) 32
theorem labelOk_len {l : List UInt8} (h : labelOk l = true) : l.length ≤ 40 := by
  unfold labelOk at h
  simp only [Bool.and_eq_true, decide_eq_true_eq] at h
  exact h.2


end Go.Proofs.YthiabbgkfmopiaaGreat

/- The contracts of chapter 3's functions in the specification, at every argument: code and bytes. -/
namespace Go.Proofs.YthiabbgkfmopiaaGreat
open Go.ChangeShapes Go.WideShapes Go.ChangeAt Go.RowKit

def keyB (key : List UInt8) : Bool := decide (key.length ≤ 64)
def dataB (data : List UInt8) : Bool := decide (data.length ≤ 500)

def macOk (key data : List UInt8) : Bool := keyB key && dataB data
def macC (key data : List UInt8) : Int := if macOk key data then 0 else 2
def macL (key data : List UInt8) : List UInt8 := if macOk key data then macN key data else []
theorem macL_len (key data : List UInt8) : (macL key data).length ≤ 1048576 := by
  unfold macL; split
  · rw [macN_len]; decide
  · simp
def extL (salt data : List UInt8) : List UInt8 := if macOk salt data then extractN salt data else []
theorem extL_len (key data : List UInt8) : (extL key data).length ≤ 1048576 := by
  unfold extL; split
  · rw [extractN_len]; decide
  · simp



def infoB (info : List UInt8) : Bool := decide (info.length ≤ 300)
def expC (key info : List UInt8) (n : Int) : Int := if keyB key && infoB info then (if inB n 0 255 then 0 else 3) else 2
def expL (key info : List UInt8) (n : Int) : List UInt8 := if keyB key && infoB info && inB n 0 255 then expandN key info n.toNat else []
theorem nat255 {n : Int} (h : inB n 0 255 = true) : ∃ m : Nat, n = m ∧ m ≤ 255 := by
  simp [inB] at h
  exact ⟨n.toNat, by omega, by omega⟩
theorem expL_len (key info : List UInt8) (n : Int) : (expL key info n).length ≤ 1048576 := by
  unfold expL; split
  · rename_i h
    simp only [Bool.and_eq_true] at h
    obtain ⟨m, rfl, hm⟩ := nat255 h.2
    rw [expandN_len]; omega
  · simp
def labL (l ctx : List UInt8) (n : Int) : List UInt8 := if labelC l ctx n = 0 then labelB l ctx n.toNat else []
theorem labelC_zero {l ctx : List UInt8} {n : Int} (h : labelC l ctx n = 0) : labelOk l = true ∧ ctx.length ≤ 100 ∧ inB n 0 255 = true := by
  unfold labelC at h
  split at h
  · rename_i h1
    split at h
    · rename_i h2
      split at h
      · rename_i h3
        exact ⟨h1, h2, h3⟩
      · cases h
    · cases h
  · cases h
theorem labL_len (l ctx : List UInt8) (n : Int) : (labL l ctx n).length ≤ 1048576 := by
  unfold labL; split
  · rename_i h
    have h1 := labelOk_len (labelC_zero h).1
    have h2 := (labelC_zero h).2.1
    rw [labelB_len]; omega
  · simp
def elC (key l ctx : List UInt8) (n : Int) : Int := if keyB key then labelC l ctx n else 2
def elL (key l ctx : List UInt8) (n : Int) : List UInt8 := if elC key l ctx n = 0 then expLabN key l ctx n.toNat else []
theorem elC_zero {key l ctx : List UInt8} {n : Int} (h : elC key l ctx n = 0) : keyB key = true ∧ labelC l ctx n = 0 := by
  unfold elC at h
  split at h
  · rename_i h1
    exact ⟨h1, h⟩
  · cases h
theorem elL_len (key l ctx : List UInt8) (n : Int) : (elL key l ctx n).length ≤ 1048576 := by
  unfold elL; split
  · rename_i h
    obtain ⟨m, rfl, hm⟩ := nat255 (labelC_zero (elC_zero h).2).2.2
    rw [expLabN, expandN_len]; omega
  · simp
def dkC (key l data : List UInt8) : Int := if keyB key then (if labelOk l then (if dataB data then 0 else 2) else 5) else 2
def dkL (key l data : List UInt8) : List UInt8 := if keyB key && labelOk l && dataB data then deriveN key l data else []
theorem dkL_len (key l data : List UInt8) : (dkL key l data).length ≤ 1048576 := by
  unfold dkL; split
  · rw [deriveN, expLabN, expandN_len]; decide
  · simp

end Go.Proofs.YthiabbgkfmopiaaGreat

/- Chapter 7 as plain functions on bytes, with no program in it: the secrets of a schedule (earlyN, handN, masterN, trafN), what is exported (exportN), their lengths, the codes of the functions at every argument. No conditions but those in each line. -/
namespace Go.Proofs.YthiabbgkfmopiaaGreat
open Go.RowKit

def derivedB : List UInt8 := [100, 101, 114, 105, 118, 101, 100]
def exporterB : List UInt8 := [101, 120, 112, 111, 114, 116, 101, 114]
def cApB : List UInt8 := [99, 32, 97, 112, 32, 116, 114, 97, 102, 102, 105, 99]
def sApB : List UInt8 := [115, 32, 97, 112, 32, 116, 114, 97, 102, 102, 105, 99]
def expMB : List UInt8 := [101, 120, 112, 32, 109, 97, 115, 116, 101, 114]
def resMB : List UInt8 := [114, 101, 115, 32, 109, 97, 115, 116, 101, 114]
theorem derived_str : (⟨#[100, 101, 114, 105, 118, 101, 100]⟩ : ByteArray) = strB derivedB := rfl
theorem exporter_str : (⟨#[101, 120, 112, 111, 114, 116, 101, 114]⟩ : ByteArray) = strB exporterB := rfl
theorem cAp_str : (⟨#[99, 32, 97, 112, 32, 116, 114, 97, 102, 102, 105, 99]⟩ : ByteArray) = strB cApB := rfl
theorem sAp_str : (⟨#[115, 32, 97, 112, 32, 116, 114, 97, 102, 102, 105, 99]⟩ : ByteArray) = strB sApB := rfl
theorem expM_str : (⟨#[101, 120, 112, 32, 109, 97, 115, 116, 101, 114]⟩ : ByteArray) = strB expMB := rfl
theorem resM_str : (⟨#[114, 101, 115, 32, 109, 97, 115, 116, 101, 114]⟩ : ByteArray) = strB resMB := rfl

def pskN (psk : List UInt8) : List UInt8 := if psk.length = 0 then zs 32 else psk
def earlyN (psk : List UInt8) : List UInt8 := extractN [] (pskN psk)
def handN (early shared : List UInt8) : List UInt8 := extractN (deriveN early derivedB []) shared
def masterN (hand : List UInt8) : List UInt8 := extractN (deriveN hand derivedB []) (zs 32)
def trafN (secret l digest : List UInt8) : List UInt8 := expLabN secret l digest 32
def exportN (exporter l ctx : List UInt8) (n : Nat) : List UInt8 := expLabN (deriveN exporter l []) exporterB (digestN ctx) n
theorem earlyN_len (psk : List UInt8) : (earlyN psk).length = 32 := extractN_len _ _
theorem handN_len (early shared : List UInt8) : (handN early shared).length = 32 := extractN_len _ _
theorem masterN_len (hand : List UInt8) : (masterN hand).length = 32 := extractN_len _ _
theorem expLabN_len (key l ctx : List UInt8) (n : Nat) : (expLabN key l ctx n).length = n := expandN_len _ _ _
theorem trafN_len (secret l digest : List UInt8) : (trafN secret l digest).length = 32 := expLabN_len _ _ _ _
theorem deriveN_len (key l data : List UInt8) : (deriveN key l data).length = 32 := expLabN_len _ _ _ _
theorem exportN_len (exporter l ctx : List UInt8) (n : Nat) : (exportN exporter l ctx n).length = n := expLabN_len _ _ _ _

def is32 (s : List UInt8) : Bool := decide (s.length = 32)
def esC (psk : List UInt8) : Int := if psk.length ≤ 64 then 0 else 2
def esL (psk : List UInt8) : List UInt8 := if esC psk = 0 then earlyN psk else []
def hsC (early shared : List UInt8) : Int := if is32 early then (if shared.length ≤ 64 then 0 else 2) else 1
def hsL (early shared : List UInt8) : List UInt8 := if hsC early shared = 0 then handN early shared else []
def msC (hand : List UInt8) : Int := if is32 hand then 0 else 1
def msL (hand : List UInt8) : List UInt8 := if msC hand = 0 then masterN hand else []
def tfC (secret l digest : List UInt8) : Int := if is32 secret && is32 digest then (if labelOk l then 0 else 5) else 1
def tfL (secret l digest : List UInt8) : List UInt8 := if tfC secret l digest = 0 then trafN secret l digest else []
def scC (master digest : List UInt8) : Int := if is32 master && is32 digest then 0 else 1
def scL (master digest l : List UInt8) : List UInt8 := if scC master digest = 0 then trafN master l digest else []
def exC (exporter l ctx : List UInt8) (n : Int) : Int := if is32 exporter then labelC l ctx n else 1
def exL (exporter l ctx : List UInt8) (n : Int) : List UInt8 := if exC exporter l ctx n = 0 then exportN exporter l ctx n.toNat else []
theorem esL_len (psk : List UInt8) : (esL psk).length ≤ 1048576 := by unfold esL; split; rw [earlyN_len]; decide; simp
theorem hsL_len (early shared : List UInt8) : (hsL early shared).length ≤ 1048576 := by unfold hsL; split; rw [handN_len]; decide; simp
theorem msL_len (hand : List UInt8) : (msL hand).length ≤ 1048576 := by unfold msL; split; rw [masterN_len]; decide; simp
theorem tfL_len (secret l digest : List UInt8) : (tfL secret l digest).length ≤ 1048576 := by unfold tfL; split; rw [trafN_len]; decide; simp
theorem scL_len (master digest l : List UInt8) : (scL master digest l).length ≤ 32 := by unfold scL; split; rw [trafN_len]; exact Nat.le_refl _; simp
theorem labelC_bound {l ctx : List UInt8} {n : Int} (h : labelC l ctx n = 0) : labelOk l = true ∧ ctx.length ≤ 100 ∧ inB n 0 255 = true := labelC_zero h
theorem exC_zero {exporter l ctx : List UInt8} {n : Int} (h : exC exporter l ctx n = 0) : is32 exporter = true ∧ labelC l ctx n = 0 := by
  unfold exC at h
  split at h
  · rename_i h1; exact ⟨h1, h⟩
  · cases h
theorem exL_len (exporter l ctx : List UInt8) (n : Int) : (exL exporter l ctx n).length ≤ 1048576 := by
  unfold exL; split
  · rename_i h
    obtain ⟨m, rfl, hm⟩ := nat255 (labelC_zero (exC_zero h).2).2.2
    rw [exportN_len]; simp; omega
  · simp
end Go.Proofs.YthiabbgkfmopiaaGreat

