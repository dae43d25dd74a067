/- Chapter 9 as plain functions, with no program in it: faults of streams, keys of a secret, records that are sent, heard, cut; that what is sent is heard. No conditions but those in each line. -/
import Derived.Test.YtdbpnibcblelbaaGreatDoorJoint15
import Derived.Test.YtdbpnibcblelbaaGreatDoorJoint3
import Derived.Test.YtdbpnibcblelbaaGreatDoorJoint11
import Derived.Test.YtdbpnibcblelbaaGreatDoorJoint20
import Derived.Test.YtdbpnibcblelbaaGreatDoorJoint6
import Derived.Test.YtdbpnibcblelbaaGreatDoorJoint8
import Derived.Test.YtdbpnibcblelbaaGreatDoorJoint12
import Derived.BigQuiet
namespace Go.Proofs.YtdbpnibcblelbaaGreatDoor
open Go.RowKit

def keyLab : List UInt8 := [107, 101, 121]
def ivLab : List UInt8 := [105, 118]
def updLab : List UInt8 := [116, 114, 97, 102, 102, 105, 99, 32, 117, 112, 100]

def stC (x : StreamD) : Int := if is32 x.1 then (if inB x.2.1 0 200 && inB x.2.2 0 99 then 0 else 3) else 1
def keyN (s : List UInt8) : List UInt8 := expLabN s keyLab [] 32
def baseN (s : List UInt8) : List UInt8 := expLabN s ivLab [] 12
def koD (s : List UInt8) : KeysResultD := if is32 s then (0, keyN s, baseN s) else (1, [], [])
def askC (x : StreamD) : Int := if stC x = 0 then (if 200 ≤ x.2.1 then 10 else 0) else stC x
def nextS (x : StreamD) : StreamD := (x.1, x.2.1 + 1, x.2.2)
def zeroSt : StreamD := ([], 0, 0)
def kindB (k : Int) : Bool := inB k 21 23
def badR (c : Int) : RecordResultD := (c, 0, [], zeroSt)
def innerN (kind : Int) (plain : List UInt8) (pad : Int) : List UInt8 := plain ++ [UInt8.ofNat kind.toNat] ++ zs pad.toNat
def headN (n : Nat) : List UInt8 := [23, 3, 3] ++ putB (n + 16) 2
def nonceS (x : StreamD) : List UInt8 := nonceN (baseN x.1) x.2.1.toNat
def srC (x : StreamD) (kind : Int) (plain : List UInt8) (pad : Int) : Int := if askC x = 0 then (if kindB kind && inB pad 0 16 then (if plain.length ≤ 200 then 0 else 2) else 3) else askC x
def recN (x : StreamD) (inner : List UInt8) : List UInt8 := headN inner.length ++ sealN (keyN x.1) (nonceS x) (headN inner.length) inner
def srD (x : StreamD) (kind : Int) (plain : List UInt8) (pad : Int) : RecordResultD :=
  if srC x kind plain pad = 0 then (0, kind, recN x (innerN kind plain pad), nextS x) else badR (srC x kind plain pad)

/-- How many bytes stand up to the last one that is not zero. -/
def nzN (l : List UInt8) : Nat := (l.reverse.dropWhile (· == 0)).length
def bodyOk (r : List UInt8) : Bool := decide (5 ≤ r.length) && (r.getD 0 0 == 23) && (r.getD 1 0 == 3) && (r.getD 2 0 == 3) && decide (r.length - 5 = getB ((r.drop 3).take 2))
def oC (x : StreamD) (r : List UInt8) : Int := openC (keyN x.1) (nonceS x) (r.take 5) (r.drop 5)
def oL (x : StreamD) (r : List UInt8) : List UInt8 := openL (keyN x.1) (nonceS x) (r.take 5) (r.drop 5)
def inC (l : List UInt8) : Int := if nzN l = 0 then 1 else (if kindB ((l.getD (nzN l - 1) 0).toNat : Int) then (if 200 < nzN l - 1 then 2 else 0) else 3)
def hrC (x : StreamD) (r : List UInt8) : Int := if askC x = 0 then (if bodyOk r then (if oC x r = 0 then inC (oL x r) else oC x r) else 5) else askC x
def hrD (x : StreamD) (r : List UInt8) : RecordResultD :=
  if hrC x r = 0 then (0, (((oL x r).getD (nzN (oL x r) - 1) 0).toNat : Int), (oL x r).take (nzN (oL x r) - 1), nextS x) else badR (hrC x r)
def usC (x : StreamD) : Int := if stC x = 0 then (if 99 ≤ x.2.2 then 10 else 0) else stC x
def usD (x : StreamD) : RecordResultD := if usC x = 0 then (0, 0, [], (expLabN x.1 updLab [] 32, 0, x.2.2 + 1)) else badR (usC x)

/-- Records one behind the other, from a place on. -/
def numR (data : List UInt8) (at_ : Nat) : Nat := getB ((data.drop (at_ + 3)).take 2)
def cutR (data : List UInt8) (at_ : Nat) (out : List (List UInt8)) : Int × List (List UInt8) :=
  if at_ < data.length then
    if data.length - at_ < 5 then (5, [])
    else if 240 < numR data at_ then (3, [])
    else if data.length - at_ - 5 < numR data at_ then (5, [])
    else if 8 ≤ out.length then (2, [])
    else cutR data (at_ + 5 + numR data at_) (out ++ [(data.drop at_).take (5 + numR data at_)])
  else (0, out)
termination_by data.length - at_
theorem cutR_end {data : List UInt8} {at_ : Nat} {out : List (List UInt8)} (h : ¬ at_ < data.length) : cutR data at_ out = (0, out) := by rw [cutR, if_neg h]
theorem cutR_a {data : List UInt8} {at_ : Nat} {out : List (List UInt8)} (h : at_ < data.length) (h1 : data.length - at_ < 5) : cutR data at_ out = (5, []) := by rw [cutR, if_pos h, if_pos h1]
theorem cutR_b {data : List UInt8} {at_ : Nat} {out : List (List UInt8)} (h : at_ < data.length) (h1 : ¬ data.length - at_ < 5) (h2 : 240 < numR data at_) : cutR data at_ out = (3, []) := by rw [cutR, if_pos h, if_neg h1, if_pos h2]
theorem cutR_c {data : List UInt8} {at_ : Nat} {out : List (List UInt8)} (h : at_ < data.length) (h1 : ¬ data.length - at_ < 5) (h2 : ¬ 240 < numR data at_) (h3 : data.length - at_ - 5 < numR data at_) : cutR data at_ out = (5, []) := by rw [cutR, if_pos h, if_neg h1, if_neg h2, if_pos h3]
theorem cutR_d {data : List UInt8} {at_ : Nat} {out : List (List UInt8)} (h : at_ < data.length) (h1 : ¬ data.length - at_ < 5) (h2 : ¬ 240 < numR data at_) (h3 : ¬ data.length - at_ - 5 < numR data at_) (h4 : 8 ≤ out.length) : cutR data at_ out = (2, []) := by rw [cutR, if_pos h, if_neg h1, if_neg h2, if_neg h3, if_pos h4]
theorem cutR_next {data : List UInt8} {at_ : Nat} {out : List (List UInt8)} (h : at_ < data.length) (h1 : ¬ data.length - at_ < 5) (h2 : ¬ 240 < numR data at_) (h3 : ¬ data.length - at_ - 5 < numR data at_) (h4 : ¬ 8 ≤ out.length) : cutR data at_ out = cutR data (at_ + 5 + numR data at_) (out ++ [(data.drop at_).take (5 + numR data at_)]) := by
  conv => lhs; rw [cutR, if_pos h, if_neg h1, if_neg h2, if_neg h3, if_neg h4]
def crC (data : List UInt8) : Int := if data.length ≤ 600 then (cutR data 0 []).1 else 2
def crL (data : List UInt8) : List (List UInt8) := if data.length ≤ 600 then (cutR data 0 []).2 else []

theorem putB2 (n : Nat) (h : n < 65536) : getB (putB n 2) = n := by
  rw [show putB n 2 = [UInt8.ofNat (n / 256 ^ 1 % 256), UInt8.ofNat (n / 256 ^ 0 % 256)] from rfl]
  simp only [getB, List.foldl_cons, List.foldl_nil, UInt8.toNat_ofNat', Nat.pow_one, Nat.pow_zero, Nat.div_one]
  omega
theorem headN_len (n : Nat) : (headN n).length = 5 := by simp [headN, putB_len]
theorem keyN_len (s : List UInt8) : (keyN s).length = 32 := expLabN_len _ _ _ _
theorem baseN_len (s : List UInt8) : (baseN s).length = 12 := expLabN_len _ _ _ _
theorem nonceS_len (x : StreamD) : (nonceS x).length = 12 := by simp [nonceS, nonceN]
theorem innerN_len (kind : Int) (plain : List UInt8) (pad : Int) : (innerN kind plain pad).length = plain.length + 1 + pad.toNat := by simp [innerN, zs]; omega
theorem recN_len (x : StreamD) (inner : List UInt8) : (recN x inner).length = inner.length + 21 := by
  rw [recN, List.length_append, headN_len, sealN_len]; omega
/-- Zeros at the end are passed by. -/
theorem nzN_snoc (l : List UInt8) (b : UInt8) (n : Nat) (hb : b ≠ 0) : nzN (l ++ [b] ++ zs n) = l.length + 1 := by
  unfold nzN zs
  rw [List.reverse_append, List.reverse_replicate, List.dropWhile_append_of_pos (by intro x hx; rw [List.mem_replicate] at hx; rw [hx.2]; rfl), List.reverse_append, List.reverse_singleton, List.singleton_append, List.dropWhile_cons_of_neg (by simpa using hb), List.length_cons, List.length_reverse]
theorem nzN_nil : nzN [] = 0 := rfl
theorem nzN_zero {l : List UInt8} {k : Nat} (h : k < l.length) (hz : l.getD k 0 = 0) : nzN (l.take (k + 1)) = nzN (l.take k) := by
  have e : l.take (k + 1) = l.take k ++ [0] := by rw [List.take_succ_eq_append_getElem h]; congr 2; simpa [h] using hz
  rw [e]
  unfold nzN
  rw [List.reverse_append, List.reverse_singleton, List.singleton_append, List.dropWhile_cons_of_pos (by rfl)]
theorem nzN_pos {l : List UInt8} {k : Nat} (h : k < l.length) (hz : l.getD k 0 ≠ 0) : nzN (l.take (k + 1)) = k + 1 := by
  have e : l.take (k + 1) = l.take k ++ [l.getD k 0] := by rw [List.take_succ_eq_append_getElem h]; congr 2; simp [h]
  rw [e]
  unfold nzN
  rw [List.reverse_append, List.reverse_singleton, List.singleton_append, List.dropWhile_cons_of_neg (by simpa using hz), List.length_cons, List.length_reverse, List.length_take]
  omega

theorem kind_byte {kind : Int} (h : kindB kind = true) : ((UInt8.ofNat kind.toNat).toNat : Int) = kind ∧ UInt8.ofNat kind.toNat ≠ 0 := by
  have h2 : 21 ≤ kind ∧ kind ≤ 23 := by simpa [kindB, inB] using h
  have h3 : ((UInt8.ofNat kind.toNat).toNat : Int) = kind := by rw [UInt8.toNat_ofNat']; omega
  refine ⟨h3, fun e => ?_⟩
  rw [e] at h3
  have h4 : ((0 : UInt8).toNat : Int) = 0 := rfl
  omega
theorem inner_heard {kind : Int} {plain : List UInt8} {pad : Int} (hk : kindB kind = true) (hp : plain.length ≤ 200) :
    inC (innerN kind plain pad) = 0 ∧ nzN (innerN kind plain pad) = plain.length + 1 ∧ (((innerN kind plain pad).getD (nzN (innerN kind plain pad) - 1) 0).toNat : Int) = kind ∧ (innerN kind plain pad).take (nzN (innerN kind plain pad) - 1) = plain := by
  obtain ⟨h1, h2⟩ := kind_byte hk
  have e : nzN (innerN kind plain pad) = plain.length + 1 := nzN_snoc _ _ _ h2
  have g : (innerN kind plain pad).getD plain.length 0 = UInt8.ofNat kind.toNat := by simp [innerN]
  refine ⟨?_, e, ?_, ?_⟩
  · unfold inC
    rw [e, Nat.add_sub_cancel, g, if_neg (by omega), h1, if_pos hk, if_neg (by omega)]
  · rw [e, Nat.add_sub_cancel, g, h1]
  · rw [e, Nat.add_sub_cancel, innerN, List.append_assoc]; simp
theorem recN_head (x : StreamD) (inner : List UInt8) : (recN x inner).take 5 = headN inner.length := by
  rw [recN]; exact List.take_left' (headN_len _)
theorem recN_body (x : StreamD) (inner : List UInt8) : (recN x inner).drop 5 = sealN (keyN x.1) (nonceS x) (headN inner.length) inner := by
  rw [recN]; exact List.drop_left' (headN_len _)
theorem getD_pre {a b : List UInt8} {i : Nat} (h : i < a.length) : (a ++ b).getD i 0 = a.getD i 0 := by
  rw [List.getD_eq_getElem?_getD, List.getElem?_append_left h, ← List.getD_eq_getElem?_getD]
theorem recN_num (x : StreamD) (inner : List UInt8) (hi : inner.length ≤ 220) : getB (((recN x inner).drop 3).take 2) = inner.length + 16 := by
  have e : recN x inner = [23, 3, 3] ++ (putB (inner.length + 16) 2 ++ sealN (keyN x.1) (nonceS x) (headN inner.length) inner) := by rw [recN, headN, List.append_assoc]
  rw [e, List.drop_left' (by rfl), List.take_left' (putB_len _ _), putB2 _ (by omega)]
theorem recN_body_ok (x : StreamD) (inner : List UInt8) (hi : inner.length ≤ 220) : bodyOk (recN x inner) = true := by
  have h := recN_num x inner hi
  have hl := recN_len x inner
  have g : ∀ i, i < 5 → (recN x inner).getD i 0 = (headN inner.length).getD i 0 := fun i hi => by rw [recN]; exact getD_pre (by rw [headN_len]; exact hi)
  unfold bodyOk
  rw [h, g 0 (by decide), g 1 (by decide), g 2 (by decide), hl]
  simp [headN]
theorem nextS_ok {x : StreamD} (h : askC x = 0) : stC (nextS x) = 0 := by
  unfold askC at h
  by_cases h1 : stC x = 0
  · rw [if_pos h1] at h
    by_cases h2 : 200 ≤ x.2.1
    · rw [if_pos h2] at h; exact absurd h (by decide)
    · unfold stC at h1 ⊢
      by_cases h3 : is32 x.1
      · rw [if_pos h3] at h1
        by_cases h4 : (inB x.2.1 0 200 && inB x.2.2 0 99) = true
        · rw [show is32 (nextS x).1 = true from h3, if_pos rfl]
          have h5 : (0 ≤ x.2.1 ∧ x.2.1 ≤ 200) ∧ 0 ≤ x.2.2 ∧ x.2.2 ≤ 99 := by simpa [inB] using h4
          rw [if_pos (by show (inB (x.2.1 + 1) 0 200 && inB x.2.2 0 99) = true; simp [inB]; omega)]
        · rw [if_neg h4] at h1; exact absurd h1 (by decide)
      · rw [if_neg h3] at h1; exact absurd h1 (by decide)
  · rw [if_neg h1] at h; exact absurd h h1
theorem st_parts {x : StreamD} (h : stC x = 0) : x.1.length = 32 ∧ 0 ≤ x.2.1 ∧ x.2.1 ≤ 200 ∧ 0 ≤ x.2.2 ∧ x.2.2 ≤ 99 := by
  unfold stC at h
  by_cases h3 : is32 x.1 = true
  · rw [if_pos h3] at h
    by_cases h4 : (inB x.2.1 0 200 && inB x.2.2 0 99) = true
    · have h5 : (0 ≤ x.2.1 ∧ x.2.1 ≤ 200) ∧ 0 ≤ x.2.2 ∧ x.2.2 ≤ 99 := by simpa [inB] using h4
      have h6 : x.1.length = 32 := by simpa [is32] using h3
      omega
    · rw [if_neg h4] at h; exact absurd h (by decide)
  · rw [if_neg h3] at h; exact absurd h (by decide)
theorem ask_parts {x : StreamD} (h : askC x = 0) : stC x = 0 ∧ x.1.length = 32 ∧ 0 ≤ x.2.1 ∧ x.2.1 < 200 ∧ 0 ≤ x.2.2 ∧ x.2.2 ≤ 99 := by
  unfold askC at h
  by_cases h1 : stC x = 0
  · rw [if_pos h1] at h
    have := st_parts h1
    by_cases h2 : 200 ≤ x.2.1
    · rw [if_pos h2] at h; exact absurd h (by decide)
    · exact ⟨h1, by omega⟩
  · rw [if_neg h1] at h; exact absurd h h1
theorem sr_parts {x : StreamD} {kind : Int} {plain : List UInt8} {pad : Int} (h : srC x kind plain pad = 0) : askC x = 0 ∧ kindB kind = true ∧ (0 ≤ pad ∧ pad ≤ 16) ∧ plain.length ≤ 200 := by
  unfold srC at h
  by_cases ha : askC x = 0
  · rw [if_pos ha] at h
    by_cases h1 : (kindB kind && inB pad 0 16) = true
    · rw [if_pos h1] at h
      have hk2 : kindB kind = true ∧ 0 ≤ pad ∧ pad ≤ 16 := by simpa [inB] using h1
      by_cases h2 : plain.length ≤ 200
      · exact ⟨ha, hk2.1, hk2.2, h2⟩
      · rw [if_neg h2] at h; exact absurd h (by decide)
    · rw [if_neg h1] at h; exact absurd h (by decide)
  · rw [if_neg ha] at h; exact absurd h ha
theorem hr_parts {x : StreamD} {r : List UInt8} (h : hrC x r = 0) : askC x = 0 ∧ bodyOk r = true ∧ oC x r = 0 ∧ inC (oL x r) = 0 := by
  unfold hrC at h
  by_cases ha : askC x = 0
  · rw [if_pos ha] at h
    by_cases h1 : bodyOk r = true
    · rw [if_pos h1] at h
      by_cases h2 : oC x r = 0
      · rw [if_pos h2] at h; exact ⟨ha, h1, h2, h⟩
      · rw [if_neg h2] at h; exact absurd h h2
    · rw [if_neg h1] at h; exact absurd h (by decide)
  · rw [if_neg ha] at h; exact absurd h ha
theorem badR_T (c : Int) : recordResultT (badR c) = 0 := rfl
theorem koD_small (s : List UInt8) : keysResultT (koD s) ≤ 1048576 := by
  unfold koD
  split
  · show (keyN s).length + (baseN s).length ≤ _
    rw [keyN_len, baseN_len]; decide
  · exact Nat.zero_le _
theorem srD_small (x : StreamD) (kind : Int) (plain : List UInt8) (pad : Int) : recordResultT (srD x kind plain pad) ≤ 1048576 := by
  unfold srD
  split
  · rename_i h
    obtain ⟨ha, -, hp, hl⟩ := sr_parts h
    have h2 := (ask_parts ha).2.1
    show (recN x (innerN kind plain pad)).length + x.1.length ≤ _
    rw [recN_len, innerN_len]; omega
  · rw [badR_T]; exact Nat.zero_le _
theorem hrD_small (x : StreamD) (r : List UInt8) : recordResultT (hrD x r) ≤ 1048576 := by
  unfold hrD
  split
  · rename_i h
    obtain ⟨ha, -, ho, hi⟩ := hr_parts h
    have h2 := (ask_parts ha).2.1
    have h3 : nzN (oL x r) - 1 ≤ 200 := by
      unfold inC at hi
      split at hi
      · exact absurd hi (by decide)
      · split at hi
        · split at hi
          · exact absurd hi (by decide)
          · omega
        · exact absurd hi (by decide)
    show ((oL x r).take (nzN (oL x r) - 1)).length + x.1.length ≤ _
    rw [List.length_take]; omega
  · rw [badR_T]; exact Nat.zero_le _
theorem usD_small (x : StreamD) : recordResultT (usD x) ≤ 1048576 := by
  unfold usD
  split
  · show 0 + (expLabN x.1 updLab [] 32).length ≤ _
    rw [expLabN_len]; decide
  · rw [badR_T]; exact Nat.zero_le _
/-- What is sent is heard. -/
theorem sent_heard {x : StreamD} {kind : Int} {plain : List UInt8} {pad : Int} (h : srC x kind plain pad = 0) :
    hrD x (recN x (innerN kind plain pad)) = (0, kind, plain, nextS x) := by
  have ha : askC x = 0 := by
    unfold srC at h
    by_cases h1 : askC x = 0
    · exact h1
    · rw [if_neg h1] at h; exact h
  unfold srC at h
  rw [if_pos ha] at h
  have hk : (kindB kind && inB pad 0 16) = true := by
    by_cases h1 : (kindB kind && inB pad 0 16) = true
    · exact h1
    · rw [if_neg h1] at h; exact absurd h (by decide)
  rw [if_pos hk] at h
  have hp : plain.length ≤ 200 := by
    by_cases h1 : plain.length ≤ 200
    · exact h1
    · rw [if_neg h1] at h; exact absurd h (by decide)
  have hk2 : kindB kind = true ∧ 0 ≤ pad ∧ pad ≤ 16 := by simpa [inB] using hk
  have hil : (innerN kind plain pad).length ≤ 220 := by rw [innerN_len]; omega
  obtain ⟨i1, i2, i3, i4⟩ := inner_heard (pad := pad) hk2.1 hp
  have ho := open_seal (keyN x.1) (nonceS x) (headN (innerN kind plain pad).length) (innerN kind plain pad) hil
  have oc : oC x (recN x (innerN kind plain pad)) = 0 := by unfold oC; rw [recN_head, recN_body]; exact ho.1
  have ol : oL x (recN x (innerN kind plain pad)) = innerN kind plain pad := by unfold oL; rw [recN_head, recN_body]; exact ho.2
  have hc : hrC x (recN x (innerN kind plain pad)) = 0 := by unfold hrC; rw [if_pos ha, recN_body_ok x _ hil, if_pos rfl, if_pos oc, ol, i1]
  unfold hrD
  rw [if_pos hc, ol, i3, i4]
theorem cut_one {x : StreamD} {inner : List UInt8} (h : inner.length ≤ 220) : crC (recN x inner) = 0 ∧ crL (recN x inner) = [recN x inner] := by
  have hl := recN_len x inner
  have hn : numR (recN x inner) 0 = inner.length + 16 := by unfold numR; rw [Nat.zero_add]; exact recN_num x inner h
  have e : cutR (recN x inner) 0 [] = (0, [recN x inner]) := by
    rw [cutR_next (by omega) (by omega) (by omega) (by omega) (by simp), cutR_end (by omega), hn, List.drop_zero, List.take_of_length_le (by omega)]
    rfl
  unfold crC crL
  rw [if_pos (by omega), if_pos (by omega), e]
  exact ⟨rfl, rfl⟩
end Go.Proofs.YtdbpnibcblelbaaGreatDoor

/- The contracts of chapter 9's functions in the specification, at every argument. What was there stays. -/
namespace Go.Proofs.YtdbpnibcblelbaaGreatDoor
open Go.ChangeShapes Go.WideShapes Go.ChangeAt Go.RowKit

theorem keyLab_str : (⟨#[107, 101, 121]⟩ : ByteArray) = strB keyLab := rfl
theorem ivLab_str : (⟨#[105, 118]⟩ : ByteArray) = strB ivLab := rfl
theorem updLab_str : (⟨#[116, 114, 97, 102, 102, 105, 99, 32, 117, 112, 100]⟩ : ByteArray) = strB updLab := rfl

end Go.Proofs.YtdbpnibcblelbaaGreatDoor

/- The contract of CutRecords in the specification, at every argument: code and pieces. What was there stays. -/
namespace Go.Proofs.YtdbpnibcblelbaaGreatDoor
open Go.ChangeShapes Go.WideShapes Go.ChangeAt Go.RowKit

theorem numR_lt (data : List UInt8) (k : Nat) : numR data k < 65536 := by
  have h := getB_lt ((data.drop (k + 3)).take 2)
  have h2 : ((data.drop (k + 3)).take 2).length ≤ 2 := List.length_take_le _ _
  have h3 : 256 ^ ((data.drop (k + 3)).take 2).length ≤ 256 ^ 2 := Nat.pow_le_pow_right (by decide) h2
  unfold numR
  omega
theorem cutR_sum (data : List UInt8) : ∀ (m at_ : Nat) (out : List (List UInt8)), data.length - at_ ≤ m → at_ ≤ data.length → sumB out ≤ at_ → sumB (cutR data at_ out).2 ≤ data.length
  | 0, at_, out, hm, hle, ho => by
    rw [cutR_end (by omega)]
    show sumB out ≤ _
    omega
  | m + 1, at_, out, hm, hle, ho => by
    by_cases h : at_ < data.length
    · by_cases h1 : data.length - at_ < 5
      · rw [cutR_a h h1]; exact Nat.zero_le _
      · by_cases h2 : 240 < numR data at_
        · rw [cutR_b h h1 h2]; exact Nat.zero_le _
        · by_cases h3 : data.length - at_ - 5 < numR data at_
          · rw [cutR_c h h1 h2 h3]; exact Nat.zero_le _
          · by_cases h4 : 8 ≤ out.length
            · rw [cutR_d h h1 h2 h3 h4]; exact Nat.zero_le _
            · rw [cutR_next h h1 h2 h3 h4]
              refine cutR_sum data m _ _ (by omega) (by omega) ?_
              rw [sumB_append]
              have : sumB [(data.drop at_).take (5 + numR data at_)] = 5 + numR data at_ := by simp [sumB]; omega
              omega
    · rw [cutR_end h]
      show sumB out ≤ _
      omega
theorem crL_sum (data : List UInt8) : sumB (crL data) ≤ 1048576 := by
  unfold crL
  split
  · have := cutR_sum data data.length 0 [] (by omega) (Nat.zero_le _) (Nat.le_refl _)
    omega
  · exact Nat.zero_le _
theorem nil_ownC (w : World) (B : Nat) : OwnL 22 bytC w B (.slice none 0 0) [] [] [] := ⟨World.ownsRow_nil _ _ _ _, ⟨rfl, rfl⟩, by simp [Value.ownBlock]⟩
theorem OwnL.setB {α : Type} {e : TypeId} {c : Cod α} {w : World} {B : Nat} {v : Value} {l : List α} {xs : List Value} {fp : List Nat} (h : OwnL e c w B v l xs fp) {p : Addr} (hp : p.block < B) (u : Value) : OwnL e c (w.setCell p u) B v l xs fp :=
  h.fr fun k hk => heap_setCell_other _ _ k _ (by have := (h.ins k hk).1; omega)
theorem blk_own_c {w : World} {B : Nat} {u : Value} {bs : List UInt8} (h : Own w B u bs) : bytC.own w B bs [u] u.ownBlock.toList := ⟨u, rfl, h, rfl⟩
end Go.Proofs.YtdbpnibcblelbaaGreatDoor

/- impl.toldLength, impl.firstRecord of the program, at every argument that they are called at. What was there stays. -/
namespace Go.Proofs.YtdbpnibcblelbaaGreatDoor
open Go.ChangeShapes Go.WideShapes Go.ChangeAt Go.RowKit

theorem told_get (bs : List UInt8) (h : 5 ≤ bs.length) : ((getB ((bs.drop 3).take 2) : Nat) : Int) = at8 bs 3 * 256 + at8 bs 4 := by
  rw [List.drop_eq_getElem_cons (by omega), List.drop_eq_getElem_cons (by omega)]
  rw [List.take_succ_cons, List.take_succ_cons, List.take_zero]
  show (((0 * 256 + (bs[3]'(by omega)).toNat) * 256 + (bs[4]'(by omega)).toNat : Nat) : Int) = _
  rw [at8_get (by omega), at8_get (by omega)]
  omega
theorem orI_nat (a b : Nat) (ha : a < 9223372036854775808) (hb : b < 9223372036854775808) : bits .or .i64 (a : Int) (b : Int) = ((a ||| b : Nat) : Int) := by
  have hx : a ||| b < 2 ^ 63 := Nat.or_lt_two_pow (by omega) (by omega)
  show IntKind.i64.wrap ((BitVec.ofInt 64 (a : Int) ||| BitVec.ofInt 64 (b : Int)).toNat : Int) = _
  rw [BitVec.toNat_or, ofInt_i64 a ha, ofInt_i64 b hb, wrap_i64_nat _ (by omega)]
theorem orI_two {x y : Int} (hx : 0 ≤ x) (hx2 : x ≤ 255) (hy : 0 ≤ y) (hy2 : y ≤ 255) : bits .or .i64 (x * 256) y = x * 256 + y := by
  obtain ⟨a, rfl⟩ : ∃ n : Nat, x = (n : Int) := ⟨x.toNat, by omega⟩
  obtain ⟨b, rfl⟩ : ∃ n : Nat, y = (n : Int) := ⟨y.toNat, by omega⟩
  rw [show ((a : Int) * 256) = ((a * 2 ^ 8 : Nat) : Int) by omega, orI_nat _ _ (by omega) (by omega), ← Nat.shiftLeft_eq, ← Nat.shiftLeft_add_eq_or_of_lt (show b < 2 ^ 8 by omega)]
  omega
set_option maxRecDepth 4000 in
set_option maxHeartbeats 400000 in
theorem toldLength_c (p : Option Addr) (q : Nat) (bs : List UInt8) (w : World) (hr : Rd w p q bs) (h5 : 5 ≤ bs.length) :
    Calls Tryz.prog 115 #[.slice p bs.length q] w fun e w' => e = .returned (.int .i64 (getB ((bs.drop 3).take 2) : Nat)) ∧ Below w.heap.size w w' := by
  obtain ⟨b, o, rfl, hc⟩ := hr.2.2.2 (by omega)
  have c3 := hc 3 (by omega)
  have c4 := hc 4 (by omega)
  have hl3 : (3 : Int) < (bs.length : Int) := by omega
  have hl4 : (4 : Int) < (bs.length : Int) := by omega
  have E : Hid (((getB ((bs.drop 3).take 2) : Nat) : Int) = at8 bs 3 * 256 + at8 bs 4) := told_get bs h5
  have l3 := at8_lo bs 3
  have u3 := at8_hi bs 3
  have l4 := at8_lo bs 4
  have u4 := at8_hi bs 4
  clear hr hc
  go_enter Tryz.func115, Tryz.ntmps115
  go_wp2
  go_quiet (fail)
  go_wp2
  rw [orI_two l3 u3 l4 u4, ← E.out]
  go_ret
  exact ⟨rfl, below_drewN (Below.refl _ _) _⟩
/-- What the first piece is told as. -/
def numB (bs : List UInt8) : Nat := getB ((bs.drop 3).take 2)
def codeB (bs : List UInt8) (k : Nat) : Int := if bs.length < 5 then 5 else if 240 < numB bs then 3 else if bs.length < 5 + numB bs then 5 else if k = 8 then 2 else 0
end Go.Proofs.YtdbpnibcblelbaaGreatDoor

/- SendRecord, HearRecord, UpdateStream, KeysOf of the specification, at every argument (written by tools/rec_s.py). What was there stays. -/
namespace Go.Proofs.YtdbpnibcblelbaaGreatDoor
open Go.ChangeShapes Go.WideShapes Go.ChangeAt Go.RowKit

theorem lit_own (w : World) (bs : List UInt8) (B : Nat) (hB : B ≤ w.heap.size) (hl : bs.length ≤ 1000) : Own (w.alloc (.cells (bs.map u8v).toArray 5)) B (.slice (some ⟨w.heap.size, 0, none⟩) bs.length bs.length) bs := by
  have h := World.ownsRow_lit (base := B) (e := 5) (size := 1) w (bs.map u8v).toArray bs.length hB (by unfold maxLen; omega) (by simp)
  exact h
theorem record_own {w : World} {B : Nat} {c k : Int} {bs : List UInt8} {s : StreamD} {u v : Value} (m : Nat) (h1 : Own w B u bs) (h2 : Own w B v s.1) (hl : ∀ k, u.ownBlock = some k → k < m) (hg : ∀ k, v.ownBlock = some k → m ≤ k) :
    recordResultC.own w B (c, k, bs, s) [.int .i64 c, .int .i64 k, u, v, .int .i64 s.2.1, .int .i64 s.2.2] ([] ++ ([] ++ (u.ownBlock.toList ++ (v.ownBlock.toList ++ ([] ++ []))))) :=
  own_pair 0 own_int (own_pair 0 own_int (own_pair m (byt_own h1) (own_pair (w.heap.size) (byt_own h2) (own_pair 0 own_int own_int lt_nil (fun _ _ => Nat.zero_le _)) (fun k hk => h2.lt k (mem_opt.1 hk)) (ge_app ge_nil ge_nil)) (fun k hk => hl k (mem_opt.1 hk)) (ge_app (fun k hk => hg k (mem_opt.1 hk)) (ge_app ge_nil ge_nil))) lt_nil (fun _ _ => Nat.zero_le _)) lt_nil (fun _ _ => Nat.zero_le _)
theorem badR_own (w : World) (B : Nat) (c : Int) : recordResultC.own w B (badR c) [.int .i64 c, .int .i64 0, .slice none 0 0, .slice none 0 0, .int .i64 0, .int .i64 0] [] :=
  record_own (s := zeroSt) 0 (Own_nil _ _) (Own_nil _ _) (fun k hk => by simp [Value.ownBlock] at hk) (fun k hk => by simp [Value.ownBlock] at hk)

theorem keys_own {w : World} {B : Nat} {c : Int} {ks bs : List UInt8} {u v : Value} (m : Nat) (h1 : Own w B u ks) (h2 : Own w B v bs) (hl : ∀ k, u.ownBlock = some k → k < m) (hg : ∀ k, v.ownBlock = some k → m ≤ k) :
    keysResultC.own w B (c, ks, bs) [.int .i64 c, u, v] ([] ++ (u.ownBlock.toList ++ v.ownBlock.toList)) :=
  own_pair 0 own_int (own_pair m (byt_own h1) (byt_own h2) (fun k hk => hl k (mem_opt.1 hk)) (fun k hk => hg k (mem_opt.1 hk))) lt_nil (fun _ _ => Nat.zero_le _)
end Go.Proofs.YtdbpnibcblelbaaGreatDoor

/- Chapter 12 as plain functions on data, with no program in it: certificates that are right (okC), found by number (atC), a list's fault (ctC), packed and read back (pcL, unC), signatures' faults (sgC), who may sign (swC, swD), what is found at a place (ckB). No conditions but those in each line. -/
namespace Go.Proofs.YtdbpnibcblelbaaGreatDoor
open Go.RowKit

def okC (c : CertD) : Bool := inB c.1 1 99 && inB c.2.1 1 9 && inB c.2.2 0 9999
def zC : CertD := (0, 0, 0)
def hasC (l : List CertD) (id : Int) : Bool := l.any fun c => c.1 == id
def atC (l : List CertD) (id : Int) : Option CertD := l.find? fun c => c.1 == id
def foC (l : List CertD) (id : Int) : CertD := (atC l id).getD zC
def cgC : List CertD → List CertD → Int
  | _, [] => 0
  | s, c :: t => if okC c then (if hasC s c.1 then 6 else cgC (s ++ [c]) t) else 3
def ctC (l : List CertD) : Int := if l.length ≤ 8 then cgC [] l else 2
def lkD (l : List CertD) (id : Int) : Int × CertD := if ctC l = 0 then (if hasC l id then (0, foC l id) else (4, zC)) else (ctC l, zC)

theorem okC_parts {c : CertD} (h : okC c = true) : 1 ≤ c.1 ∧ c.1 ≤ 99 ∧ 1 ≤ c.2.1 ∧ c.2.1 ≤ 9 ∧ 0 ≤ c.2.2 ∧ c.2.2 ≤ 9999 := by
  simp only [okC, inB, Bool.and_eq_true, decide_eq_true_eq] at h
  omega
theorem okC_mk {c : CertD} (h1 : 1 ≤ c.1) (h2 : c.1 ≤ 99) (h3 : 1 ≤ c.2.1) (h4 : c.2.1 ≤ 9) (h5 : 0 ≤ c.2.2) (h6 : c.2.2 ≤ 9999) : okC c = true := by
  simp only [okC, inB, Bool.and_eq_true, decide_eq_true_eq]
  omega
theorem hasC_take {l : List CertD} {k : Nat} {a : CertD} {id : Int} (h : l[k]? = some a) : hasC (l.take (k + 1)) id = (hasC (l.take k) id || (a.1 == id)) := by
  rw [List.take_add_one, h]; simp [hasC]
theorem hasC_zero (id : Int) (l : List CertD) : hasC (l.take 0) id = false := by simp [hasC]
theorem foC_at {l : List CertD} {k : Nat} {a : CertD} {id : Int} (h : l[k]? = some a) (hn : hasC (l.take k) id = false) (he : a.1 = id) : foC l id = a := by
  have e : l = l.take k ++ a :: l.drop (k + 1) := by rw [← drop_at h, List.take_append_drop]
  have h2 : (l.take k).find? (fun c => c.1 == id) = none := by
    rw [List.find?_eq_none]; intro x hx; have := hn; simp only [hasC, List.any_eq_false] at this; exact this x hx
  unfold foC atC
  conv => lhs; rw [e]
  rw [List.find?_append, h2]
  simp [he]
theorem hasC_at {l : List CertD} {k : Nat} {a : CertD} {id : Int} (h : l[k]? = some a) (he : a.1 = id) : hasC l id = true := by
  simp only [hasC, List.any_eq_true]; exact ⟨a, List.mem_of_getElem? h, by simpa using he⟩
theorem foC_none {l : List CertD} {id : Int} (h : hasC l id = false) : foC l id = zC := by
  have h2 : l.find? (fun c => c.1 == id) = none := by
    rw [List.find?_eq_none]; intro x hx; simp only [hasC, List.any_eq_false] at h; exact h x hx
  unfold foC atC; rw [h2]; rfl
theorem foC_mem {l : List CertD} {id : Int} (h : hasC l id = true) : ∃ k : Nat, l[k]? = some (foC l id) ∧ (foC l id).1 = id := by
  cases hf : l.find? (fun c => c.1 == id) with
  | none =>
    rw [List.find?_eq_none] at hf
    simp only [hasC, List.any_eq_true] at h
    obtain ⟨x, hx, hx2⟩ := h
    exact absurd hx2 (hf x hx)
  | some c =>
    have h1 := List.find?_some hf
    obtain ⟨k, hk⟩ := List.mem_iff_getElem?.1 (List.mem_of_find?_eq_some hf)
    have e : foC l id = c := by unfold foC atC; rw [hf]; rfl
    rw [e]
    exact ⟨k, hk, by simpa using h1⟩
theorem cgC_step {l : List CertD} {k : Nat} {a : CertD} (h : l[k]? = some a) (ho : okC a = true) (hn : hasC (l.take k) a.1 = false) : cgC (l.take k) (l.drop k) = cgC (l.take (k + 1)) (l.drop (k + 1)) := by
  rw [drop_at h, cgC, if_pos ho, if_neg (by rw [hn]; simp), List.take_add_one, h]; rfl
theorem cgC_bad {l : List CertD} {k : Nat} {a : CertD} (h : l[k]? = some a) (ho : okC a = false) : cgC (l.take k) (l.drop k) = 3 := by
  rw [drop_at h, cgC, if_neg (by rw [ho]; simp)]
theorem cgC_taken {l : List CertD} {k : Nat} {a : CertD} (h : l[k]? = some a) (ho : okC a = true) (hn : hasC (l.take k) a.1 = true) : cgC (l.take k) (l.drop k) = 6 := by
  rw [drop_at h, cgC, if_pos ho, if_pos hn]
theorem cgC_end (l : List CertD) : cgC (l.take l.length) (l.drop l.length) = 0 := by rw [List.drop_length]; rfl
theorem cgC_all : ∀ (t s : List CertD), cgC s t = 0 → ∀ c ∈ t, okC c = true
  | [], _, _, c, hc => by cases hc
  | a :: t, s, h, c, hc => by
    rw [cgC] at h
    by_cases ha : okC a = true
    · rw [if_pos ha] at h
      by_cases hb : hasC s a.1 = true
      · rw [if_pos hb] at h; cases h
      · rw [if_neg hb] at h
        rcases List.mem_cons.1 hc with rfl | hc
        · exact ha
        · exact cgC_all t _ h c hc
    · rw [if_neg ha] at h; cases h
theorem ctC_all {l : List CertD} (h : ctC l = 0) : ∀ c ∈ l, okC c = true := by
  unfold ctC at h
  by_cases hl : l.length ≤ 8
  · rw [if_pos hl] at h; exact cgC_all l [] h
  · rw [if_neg hl] at h; cases h
theorem ctC_len {l : List CertD} (h : ctC l = 0) : l.length ≤ 8 := by
  unfold ctC at h
  by_cases hl : l.length ≤ 8
  · exact hl
  · rw [if_neg hl] at h; cases h
theorem foC_ok {l : List CertD} {id : Int} (h : ∀ c ∈ l, okC c = true) (hh : hasC l id = true) : okC (foC l id) = true := by
  obtain ⟨k, hk, -⟩ := foC_mem hh; exact h _ (List.mem_of_getElem? hk)
theorem lkD_ok {l : List CertD} {id : Int} (h : (lkD l id).1 = 0) : ctC l = 0 ∧ hasC l id = true ∧ (lkD l id).2 = foC l id := by
  unfold lkD at h ⊢
  by_cases h1 : ctC l = 0
  · rw [if_pos h1] at h ⊢
    cases h2 : hasC l id
    · rw [h2] at h; simp at h
    · exact ⟨h1, rfl, by simp⟩
  · rw [if_neg h1] at h; exact absurd h h1

/-! ## Packed and read back -/
def pcL (c : CertD) : List UInt8 := [UInt8.ofNat c.1.toNat, UInt8.ofNat c.2.1.toNat, UInt8.ofNat (c.2.2.toNat / 256), UInt8.ofNat c.2.2.toNat]
def pcD (c : CertD) : Int × List UInt8 := if okC c then (0, pcL c) else (3, [])
theorem pcD_len (c : CertD) : (pcD c).2.length ≤ 1048576 := by unfold pcD; cases okC c <;> simp [pcL]
def rdC (a b c d : UInt8) : CertD := (a.toNat, b.toNat, c.toNat * 256 + d.toNat)
def ucD : List UInt8 → Int × CertD
  | [a, b, c, d] => if okC (rdC a b c d) then (0, rdC a b c d) else (5, zC)
  | _ => (5, zC)
theorem ucD_long {l : List UInt8} (h : l.length ≠ 4) : ucD l = (5, zC) := by
  match l, h with
  | [], _ => rfl
  | [_], _ => rfl
  | [_, _], _ => rfl
  | [_, _, _], _ => rfl
  | [_, _, _, _], h => exact absurd rfl h
  | _ :: _ :: _ :: _ :: _ :: _, _ => rfl
theorem four_of {l : List UInt8} (h : l.length = 4) : ∃ a b c d, l = [a, b, c, d] := by
  match l, h with
  | [a, b, c, d], _ => exact ⟨a, b, c, d, rfl⟩
theorem rdC_pack {c : CertD} (h : okC c = true) : ucD (pcL c) = (0, c) := by
  obtain ⟨a, b, d⟩ := c
  have hp := okC_parts h
  simp only at hp
  have e : rdC (UInt8.ofNat a.toNat) (UInt8.ofNat b.toNat) (UInt8.ofNat (d.toNat / 256)) (UInt8.ofNat d.toNat) = (a, b, d) := by
    simp only [rdC, UInt8.toNat_ofNat', Prod.mk.injEq]
    omega
  show (if okC (rdC _ _ _ _) then _ else _) = _
  rw [e, if_pos h]
theorem pcL_read {l : List UInt8} (h : (ucD l).1 = 0) : okC (ucD l).2 = true ∧ pcL (ucD l).2 = l := by
  by_cases h4 : l.length = 4
  · obtain ⟨a, b, c, d, rfl⟩ := four_of h4
    have e : ucD [a, b, c, d] = if okC (rdC a b c d) then (0, rdC a b c d) else (5, zC) := rfl
    rw [e] at h ⊢
    cases ho : okC (rdC a b c d)
    · rw [ho] at h; cases h
    · refine ⟨ho, ?_⟩
      have ha := a.toNat_lt; have hb := b.toNat_lt; have hc := c.toNat_lt; have hd := d.toNat_lt
      have q : ∀ (x : UInt8) (n : Nat), n % 256 = x.toNat → UInt8.ofNat n = x := fun x n hn => by
        apply UInt8.toNat_inj.1; rw [UInt8.toNat_ofNat']; exact hn
      simp only [pcL, rdC, if_true, List.cons.injEq, and_true]
      refine ⟨q _ _ (by omega), q _ _ (by omega), q _ _ (by omega), q _ _ (by omega)⟩
  · rw [ucD_long h4] at h; cases h

/-! ## Signatures -/
def sgO (s : SignD) : Int := if inB s.1 1 99 && inB s.2.1 0 9 then (if is32 s.2.2 then 0 else 1) else 3
def sgF : List SignD → Int
  | [] => 0
  | s :: t => if sgO s = 0 then sgF t else sgO s
def sgC (l : List SignD) : Int := if l.length ≤ 40 then sgF l else 2
theorem sgF_step {l : List SignD} {k : Nat} {a : SignD} (h : l[k]? = some a) (h0 : sgO a = 0) : sgF (l.drop k) = sgF (l.drop (k + 1)) := by rw [drop_at h, sgF, if_pos h0]
theorem sgF_bad {l : List SignD} {k : Nat} {a : SignD} (h : l[k]? = some a) (h0 : sgO a ≠ 0) : sgF (l.drop k) = sgO a := by rw [drop_at h, sgF, if_neg h0]
theorem sgF_end (l : List SignD) : sgF (l.drop l.length) = 0 := by rw [List.drop_length]; rfl
theorem sgF_all : ∀ {l : List SignD}, sgF l = 0 ↔ ∀ s ∈ l, sgO s = 0
  | [] => by simp [sgF]
  | a :: t => by
    rw [sgF]
    by_cases ha : sgO a = 0
    · rw [if_pos ha, sgF_all]; simp [ha]
    · rw [if_neg ha]; simp [ha]
theorem sgC_all {l : List SignD} : sgC l = 0 ↔ l.length ≤ 40 ∧ ∀ s ∈ l, sgO s = 0 := by
  unfold sgC
  by_cases hl : l.length ≤ 40
  · rw [if_pos hl, sgF_all]; simp [hl]
  · rw [if_neg hl]; simp [hl]
theorem sgO_parts {s : SignD} (h : sgO s = 0) : 1 ≤ s.1 ∧ s.1 ≤ 99 ∧ 0 ≤ s.2.1 ∧ s.2.1 ≤ 9 ∧ s.2.2.length = 32 := by
  unfold sgO at h
  cases h1 : (inB s.1 1 99 && inB s.2.1 0 9)
  · rw [h1] at h; cases h
  · rw [h1, if_pos rfl] at h
    cases h2 : is32 s.2.2
    · rw [h2] at h; cases h
    · simp only [inB, Bool.and_eq_true, decide_eq_true_eq] at h1
      simp only [is32, decide_eq_true_eq] at h2
      omega
theorem sgO_mk {s : SignD} (h1 : 1 ≤ s.1) (h2 : s.1 ≤ 99) (h3 : inB s.2.1 0 9 = true) (h4 : is32 s.2.2 = true) : sgO s = 0 := by
  unfold sgO; rw [h3, h4, inB_true h1 h2]; rfl
def lkB (leaked : List Int) (id : Int) : Bool := leaked.any fun x => x == id
theorem lkB_take {l : List Int} {k : Nat} {a : Int} {id : Int} (h : l[k]? = some a) : lkB (l.take (k + 1)) id = (lkB (l.take k) id || (a == id)) := by
  rw [List.take_add_one, h]; simp [lkB]
def swO (list : List CertD) (leaked : List Int) (signs : List SignD) (id by' : Int) (d : List UInt8) : Int :=
  if hasC list id then (if inB by' 0 9 then (if is32 d then (if decide ((foC list id).2.1 = by') || lkB leaked id then (if signs.length < 40 then 0 else 2) else 7) else 1) else 3) else 4
def swC (list : List CertD) (leaked : List Int) (signs : List SignD) (id by' : Int) (d : List UInt8) : Int :=
  if ctC list = 0 then (if sgC signs = 0 then swO list leaked signs id by' d else sgC signs) else ctC list
abbrev SignsResultD := Int × Int × List SignD
def swD (list : List CertD) (leaked : List Int) (signs : List SignD) (id by' : Int) (d : List UInt8) : SignsResultD :=
  if swC list leaked signs id by' d = 0 then (0, signs.length, signs ++ [(id, by', d)]) else (swC list leaked signs id by' d, 0, [])
theorem swO_ok {list : List CertD} {leaked : List Int} {signs : List SignD} {id by' : Int} {d : List UInt8} (h : swO list leaked signs id by' d = 0) :
    hasC list id = true ∧ inB by' 0 9 = true ∧ is32 d = true ∧ (decide ((foC list id).2.1 = by') || lkB leaked id) = true ∧ signs.length < 40 := by
  unfold swO at h
  cases h1 : hasC list id
  · rw [h1] at h; cases h
  rw [h1, if_pos rfl] at h
  cases h2 : inB by' 0 9
  · rw [h2] at h; cases h
  rw [h2, if_pos rfl] at h
  cases h3 : is32 d
  · rw [h3] at h; cases h
  rw [h3, if_pos rfl] at h
  cases h4 : (decide ((foC list id).2.1 = by') || lkB leaked id)
  · rw [h4] at h; cases h
  rw [h4, if_pos rfl] at h
  by_cases h5 : signs.length < 40
  · exact ⟨rfl, rfl, rfl, rfl, h5⟩
  · rw [if_neg h5] at h; cases h
theorem swC_ok {list : List CertD} {leaked : List Int} {signs : List SignD} {id by' : Int} {d : List UInt8} (h : swC list leaked signs id by' d = 0) :
    ctC list = 0 ∧ sgC signs = 0 ∧ swO list leaked signs id by' d = 0 := by
  unfold swC at h
  by_cases h1 : ctC list = 0
  · rw [if_pos h1] at h
    by_cases h2 : sgC signs = 0
    · rw [if_pos h2] at h; exact ⟨h1, h2, h⟩
    · rw [if_neg h2] at h; exact absurd h h2
  · rw [if_neg h1] at h; exact absurd h h1
theorem sw_sgC {list : List CertD} {leaked : List Int} {signs : List SignD} {id by' : Int} {d : List UInt8} (h : swC list leaked signs id by' d = 0) : sgC (signs ++ [(id, by', d)]) = 0 := by
  obtain ⟨h1, h2, h3⟩ := swC_ok h
  obtain ⟨g1, g2, g3, -, g5⟩ := swO_ok h3
  obtain ⟨k, hk, he⟩ := foC_mem g1
  have hp := okC_parts (ctC_all h1 _ (List.mem_of_getElem? hk))
  rw [he] at hp
  refine sgC_all.2 ⟨by simp; omega, fun s hs => ?_⟩
  rcases List.mem_append.1 hs with hs | hs
  · exact (sgC_all.1 h2).2 s hs
  · rcases List.mem_singleton.1 hs with rfl
    exact sgO_mk (s := (id, by', d)) hp.1 hp.2.1 g2 g3
def ckA (signs : List SignD) (place id : Int) (d : List UInt8) : Bool :=
  decide (0 ≤ place) && ((signs[place.toNat]?).map fun s => (s.1 == id) && decide (s.2.2 = d)).getD false
def ckB (signs : List SignD) (place id : Int) (d : List UInt8) : Bool := decide (sgC signs = 0) && ckA signs place id d
theorem ckA_at {signs : List SignD} {k : Nat} {s : SignD} (h : signs[k]? = some s) (id : Int) (d : List UInt8) : ckA signs k id d = ((s.1 == id) && decide (s.2.2 = d)) := by
  unfold ckA; rw [Int.toNat_natCast, h]; simp
theorem ckA_out {signs : List SignD} {place : Int} (h : ¬ (0 ≤ place ∧ place < signs.length)) (id : Int) (d : List UInt8) : ckA signs place id d = false := by
  unfold ckA
  by_cases h0 : 0 ≤ place
  · rw [List.getElem?_eq_none (by omega)]; simp
  · simp [h0]
theorem ck_old {signs : List SignD} {k : Nat} {s x : SignD} (h : signs[k]? = some s) (hs : sgC (signs ++ [x]) = 0) : ckB (signs ++ [x]) k s.1 s.2.2 = true := by
  have h2 : (signs ++ [x])[k]? = some s := by rw [List.getElem?_append_left (List.getElem?_eq_some_iff.1 h).1]; exact h
  unfold ckB; rw [ckA_at h2, hs]; simp
theorem ck_new {signs : List SignD} {x : SignD} (hs : sgC (signs ++ [x]) = 0) : ckB (signs ++ [x]) signs.length x.1 x.2.2 = true := by
  have h2 : (signs ++ [x])[signs.length]? = some x := by rw [List.getElem?_append_right (Nat.le_refl _), Nat.sub_self]; rfl
  unfold ckB; rw [ckA_at h2, hs]; simp
end Go.Proofs.YtdbpnibcblelbaaGreatDoor

