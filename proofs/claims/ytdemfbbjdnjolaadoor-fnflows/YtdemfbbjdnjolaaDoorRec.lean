/- Chapter 9 as plain functions, with no program in it: faults of streams, keys of a secret, records that are sent, heard, cut; that what is sent is heard. No conditions but those in each line. -/
import Derived.Test.YtdemfbbjdnjolaaDoorJoint8
import Derived.Test.YtdemfbbjdnjolaaDoorJoint9
import Derived.Test.YtdemfbbjdnjolaaDoorStreamC
import Derived.Test.YtdemfbbjdnjolaaDoorKeysResultC
import Derived.Test.YtdemfbbjdnjolaaDoorRecordResultC
namespace Go.Proofs.YtdemfbbjdnjolaaDoor
open Go.RowKit

def keyLab : List UInt8 := [107, 101, 121]
def ivLab : List UInt8 := [105, 118]
def updLab : List UInt8 := [116, 114, 97, 102, 102, 105, 99, 32, 117, 112, 100]

def stC (x : StreamD) : Int := if is32 x.1 then (if inB x.2.1 0 200 && inB x.2.2 0 99 then 0 else 3) else 1
def keyN (s : List UInt8) : List UInt8 := expLabN s keyLab [] 32
def baseN (s : List UInt8) : List UInt8 := expLabN s ivLab [] 12
def koD (s : List UInt8) : KeysResultD := if is32 s then (0, keyN s, baseN s) else (1, [], [])
def askC (x : StreamD) : Int := if stC x = 0 then (if 200 ≤ x.2.1 then 10 else 0) else stC x
def nextS (x : StreamD) : StreamD := (x.1, x.2.1 + 1, x.2.2)
def zeroS : StreamD := ([], 0, 0)
def kindB (k : Int) : Bool := inB k 21 23
def badR (c : Int) : RecordResultD := (c, 0, [], zeroS)
def innerN (kind : Int) (plain : List UInt8) (pad : Int) : List UInt8 := plain ++ [UInt8.ofNat kind.toNat] ++ zs pad.toNat
def headN (n : Nat) : List UInt8 := [23, 3, 3] ++ putB (n + 16) 2
def nonceS (x : StreamD) : List UInt8 := nonceN (baseN x.1) x.2.1.toNat
def srC (x : StreamD) (kind : Int) (plain : List UInt8) (pad : Int) : Int := if askC x = 0 then (if kindB kind && inB pad 0 16 then (if plain.length ≤ 200 then 0 else 2) else 3) else askC x
def recN (x : StreamD) (inner : List UInt8) : List UInt8 := headN inner.length ++ sealN (keyN x.1) (nonceS x) (headN inner.length) inner
def srD (x : StreamD) (kind : Int) (plain : List UInt8) (pad : Int) : RecordResultD :=
  if srC x kind plain pad = 0 then (0, kind, recN x (innerN kind plain pad), nextS x) else badR (srC x kind plain pad)

/-- How many bytes stand up to the last one that is not zero. -/
def nzN (l : List UInt8) : Nat := (l.reverse.dropWhile (· == 0)).length
def bodyOk (r : List UInt8) : Bool := decide (5 ≤ r.length) && (r.getD 0 0 == 23) && (r.getD 1 0 == 3) && (r.getD 2 0 == 3) && decide (r.length - 5 = getB ((r.drop 3).take 2))
def oC (x : StreamD) (r : List UInt8) : Int := openC (keyN x.1) (nonceS x) (r.take 5) (r.drop 5)
def oL (x : StreamD) (r : List UInt8) : List UInt8 := openL (keyN x.1) (nonceS x) (r.take 5) (r.drop 5)
def inC (l : List UInt8) : Int := if nzN l = 0 then 1 else (if kindB ((l.getD (nzN l - 1) 0).toNat : Int) then (if 200 < nzN l - 1 then 2 else 0) else 3)
def hrC (x : StreamD) (r : List UInt8) : Int := if askC x = 0 then (if bodyOk r then (if oC x r = 0 then inC (oL x r) else oC x r) else 5) else askC x
def hrD (x : StreamD) (r : List UInt8) : RecordResultD :=
  if hrC x r = 0 then (0, (((oL x r).getD (nzN (oL x r) - 1) 0).toNat : Int), (oL x r).take (nzN (oL x r) - 1), nextS x) else badR (hrC x r)
def usC (x : StreamD) : Int := if stC x = 0 then (if 99 ≤ x.2.2 then 10 else 0) else stC x
def usD (x : StreamD) : RecordResultD := if usC x = 0 then (0, 0, [], (expLabN x.1 updLab [] 32, 0, x.2.2 + 1)) else badR (usC x)

/-- Records one behind the other, from a place on. -/
def numR (data : List UInt8) (at_ : Nat) : Nat := getB ((data.drop (at_ + 3)).take 2)
def cutR (data : List UInt8) (at_ : Nat) (out : List (List UInt8)) : Int × List (List UInt8) :=
  if at_ < data.length then
    if data.length - at_ < 5 then (5, [])
    else if 240 < numR data at_ then (3, [])
    else if data.length - at_ - 5 < numR data at_ then (5, [])
    else if 8 ≤ out.length then (2, [])
    else cutR data (at_ + 5 + numR data at_) (out ++ [(data.drop at_).take (5 + numR data at_)])
  else (0, out)
termination_by data.length - at_
theorem cutR_end {data : List UInt8} {at_ : Nat} {out : List (List UInt8)} (h : ¬ at_ < data.length) : cutR data at_ out = (0, out) := by rw [cutR, if_neg h]
theorem cutR_a {data : List UInt8} {at_ : Nat} {out : List (List UInt8)} (h : at_ < data.length) (h1 : data.length - at_ < 5) : cutR data at_ out = (5, []) := by rw [cutR, if_pos h, if_pos h1]
theorem cutR_b {data : List UInt8} {at_ : Nat} {out : List (List UInt8)} (h : at_ < data.length) (h1 : ¬ data.length - at_ < 5) (h2 : 240 < numR data at_) : cutR data at_ out = (3, []) := by rw [cutR, if_pos h, if_neg h1, if_pos h2]
theorem cutR_c {data : List UInt8} {at_ : Nat} {out : List (List UInt8)} (h : at_ < data.length) (h1 : ¬ data.length - at_ < 5) (h2 : ¬ 240 < numR data at_) (h3 : data.length - at_ - 5 < numR data at_) : cutR data at_ out = (5, []) := by rw [cutR, if_pos h, if_neg h1, if_neg h2, if_pos h3]
theorem cutR_d {data : List UInt8} {at_ : Nat} {out : List (List UInt8)} (h : at_ < data.length) (h1 : ¬ data.length - at_ < 5) (h2 : ¬ 240 < numR data at_) (h3 : ¬ data.length - at_ - 5 < numR data at_) (h4 : 8 ≤ out.length) : cutR data at_ out = (2, []) := by rw [cutR, if_pos h, if_neg h1, if_neg h2, if_neg h3, if_pos h4]
theorem cutR_next {data : List UInt8} {at_ : Nat} {out : List (List UInt8)} (h : at_ < data.length) (h1 : ¬ data.length - at_ < 5) (h2 : ¬ 240 < numR data at_) (h3 : ¬ data.length - at_ - 5 < numR data at_) (h4 : ¬ 8 ≤ out.length) : cutR data at_ out = cutR data (at_ + 5 + numR data at_) (out ++ [(data.drop at_).take (5 + numR data at_)]) := by
  conv => lhs; rw [cutR, if_pos h, if_neg h1, if_neg h2, if_neg h3, if_neg h4]
def crC (data : List UInt8) : Int := if data.length ≤ 600 then (cutR data 0 []).1 else 2
def crL (data : List UInt8) : List (List UInt8) := if data.length ≤ 600 then (cutR data 0 []).2 else []

theorem putB2 (n : Nat) (h : n < 65536) : getB (putB n 2) = n := by
  rw [show putB n 2 = [UInt8.ofNat (n / 256 ^ 1 % 256), UInt8.ofNat (n / 256 ^ 0 % 256)] from rfl]
  simp only [getB, List.foldl_cons, List.foldl_nil, UInt8.toNat_ofNat', Nat.pow_one, Nat.pow_zero, Nat.div_one]
  omega
theorem headN_len (n : Nat) : (headN n).length = 5 := by simp [headN, putB_len]
theorem keyN_len (s : List UInt8) : (keyN s).length = 32 := expLabN_len _ _ _ _
theorem baseN_len (s : List UInt8) : (baseN s).length = 12 := expLabN_len _ _ _ _
theorem nonceS_len (x : StreamD) : (nonceS x).length = 12 := by simp [nonceS, nonceN]
theorem innerN_len (kind : Int) (plain : List UInt8) (pad : Int) : (innerN kind plain pad).length = plain.length + 1 + pad.toNat := by simp [innerN, zs]; omega
theorem recN_len (x : StreamD) (inner : List UInt8) : (recN x inner).length = inner.length + 21 := by
  rw [recN, List.length_append, headN_len, sealN_len]; omega
/-- Zeros at the end are passed by. -/
theorem nzN_snoc (l : List UInt8) (b : UInt8) (n : Nat) (hb : b ≠ 0) : nzN (l ++ [b] ++ zs n) = l.length + 1 := by
  unfold nzN zs
  rw [List.reverse_append, List.reverse_replicate, List.dropWhile_append_of_pos (by intro x hx; rw [List.mem_replicate] at hx; rw [hx.2]; rfl), List.reverse_append, List.reverse_singleton, List.singleton_append, List.dropWhile_cons_of_neg (by simpa using hb), List.length_cons, List.length_reverse]
theorem nzN_nil : nzN [] = 0 := rfl
theorem nzN_zero {l : List UInt8} {k : Nat} (h : k < l.length) (hz : l.getD k 0 = 0) : nzN (l.take (k + 1)) = nzN (l.take k) := by
  have e : l.take (k + 1) = l.take k ++ [0] := by rw [List.take_succ_eq_append_getElem h]; congr 2; simpa [h] using hz
  rw [e]
  unfold nzN
  rw [List.reverse_append, List.reverse_singleton, List.singleton_append, List.dropWhile_cons_of_pos (by rfl)]
theorem nzN_pos {l : List UInt8} {k : Nat} (h : k < l.length) (hz : l.getD k 0 ≠ 0) : nzN (l.take (k + 1)) = k + 1 := by
  have e : l.take (k + 1) = l.take k ++ [l.getD k 0] := by rw [List.take_succ_eq_append_getElem h]; congr 2; simp [h]
  rw [e]
  unfold nzN
  rw [List.reverse_append, List.reverse_singleton, List.singleton_append, List.dropWhile_cons_of_neg (by simpa using hz), List.length_cons, List.length_reverse, List.length_take]
  omega

theorem kind_byte {kind : Int} (h : kindB kind = true) : ((UInt8.ofNat kind.toNat).toNat : Int) = kind ∧ UInt8.ofNat kind.toNat ≠ 0 := by
  have h2 : 21 ≤ kind ∧ kind ≤ 23 := by simpa [kindB, inB] using h
  have h3 : ((UInt8.ofNat kind.toNat).toNat : Int) = kind := by rw [UInt8.toNat_ofNat']; omega
  refine ⟨h3, fun e => ?_⟩
  rw [e] at h3
  have h4 : ((0 : UInt8).toNat : Int) = 0 := rfl
  omega
theorem inner_heard {kind : Int} {plain : List UInt8} {pad : Int} (hk : kindB kind = true) (hp : plain.length ≤ 200) :
    inC (innerN kind plain pad) = 0 ∧ nzN (innerN kind plain pad) = plain.length + 1 ∧ (((innerN kind plain pad).getD (nzN (innerN kind plain pad) - 1) 0).toNat : Int) = kind ∧ (innerN kind plain pad).take (nzN (innerN kind plain pad) - 1) = plain := by
  obtain ⟨h1, h2⟩ := kind_byte hk
  have e : nzN (innerN kind plain pad) = plain.length + 1 := nzN_snoc _ _ _ h2
  have g : (innerN kind plain pad).getD plain.length 0 = UInt8.ofNat kind.toNat := by simp [innerN]
  refine ⟨?_, e, ?_, ?_⟩
  · unfold inC
    rw [e, Nat.add_sub_cancel, g, if_neg (by omega), h1, if_pos hk, if_neg (by omega)]
  · rw [e, Nat.add_sub_cancel, g, h1]
  · rw [e, Nat.add_sub_cancel, innerN, List.append_assoc]; simp
theorem recN_head (x : StreamD) (inner : List UInt8) : (recN x inner).take 5 = headN inner.length := by
  rw [recN]; exact List.take_left' (headN_len _)
theorem recN_body (x : StreamD) (inner : List UInt8) : (recN x inner).drop 5 = sealN (keyN x.1) (nonceS x) (headN inner.length) inner := by
  rw [recN]; exact List.drop_left' (headN_len _)
theorem getD_pre {a b : List UInt8} {i : Nat} (h : i < a.length) : (a ++ b).getD i 0 = a.getD i 0 := by
  rw [List.getD_eq_getElem?_getD, List.getElem?_append_left h, ← List.getD_eq_getElem?_getD]
theorem recN_num (x : StreamD) (inner : List UInt8) (hi : inner.length ≤ 220) : getB (((recN x inner).drop 3).take 2) = inner.length + 16 := by
  have e : recN x inner = [23, 3, 3] ++ (putB (inner.length + 16) 2 ++ sealN (keyN x.1) (nonceS x) (headN inner.length) inner) := by rw [recN, headN, List.append_assoc]
  rw [e, List.drop_left' (by rfl), List.take_left' (putB_len _ _), putB2 _ (by omega)]
theorem recN_body_ok (x : StreamD) (inner : List UInt8) (hi : inner.length ≤ 220) : bodyOk (recN x inner) = true := by
  have h := recN_num x inner hi
  have hl := recN_len x inner
  have g : ∀ i, i < 5 → (recN x inner).getD i 0 = (headN inner.length).getD i 0 := fun i hi => by rw [recN]; exact getD_pre (by rw [headN_len]; exact hi)
  unfold bodyOk
  rw [h, g 0 (by decide), g 1 (by decide), g 2 (by decide), hl]
  simp [headN]
theorem nextS_ok {x : StreamD} (h : askC x = 0) : stC (nextS x) = 0 := by
  unfold askC at h
  by_cases h1 : stC x = 0
  · rw [if_pos h1] at h
    by_cases h2 : 200 ≤ x.2.1
    · rw [if_pos h2] at h; exact absurd h (by decide)
    · unfold stC at h1 ⊢
      by_cases h3 : is32 x.1
      · rw [if_pos h3] at h1
        by_cases h4 : (inB x.2.1 0 200 && inB x.2.2 0 99) = true
        · rw [show is32 (nextS x).1 = true from h3, if_pos rfl]
          have h5 : (0 ≤ x.2.1 ∧ x.2.1 ≤ 200) ∧ 0 ≤ x.2.2 ∧ x.2.2 ≤ 99 := by simpa [inB] using h4
          rw [if_pos (by show (inB (x.2.1 + 1) 0 200 && inB x.2.2 0 99) = true; simp [inB]; omega)]
        · rw [if_neg h4] at h1; exact absurd h1 (by decide)
      · rw [if_neg h3] at h1; exact absurd h1 (by decide)
  · rw [if_neg h1] at h; exact absurd h h1
theorem st_parts {x : StreamD} (h : stC x = 0) : x.1.length = 32 ∧ 0 ≤ x.2.1 ∧ x.2.1 ≤ 200 ∧ 0 ≤ x.2.2 ∧ x.2.2 ≤ 99 := by
  unfold stC at h
  by_cases h3 : is32 x.1 = true
  · rw [if_pos h3] at h
    by_cases h4 : (inB x.2.1 0 200 && inB x.2.2 0 99) = true
    · have h5 : (0 ≤ x.2.1 ∧ x.2.1 ≤ 200) ∧ 0 ≤ x.2.2 ∧ x.2.2 ≤ 99 := by simpa [inB] using h4
      have h6 : x.1.length = 32 := by simpa [is32] using h3
      omega
    · rw [if_neg h4] at h; exact absurd h (by decide)
  · rw [if_neg h3] at h; exact absurd h (by decide)
theorem ask_parts {x : StreamD} (h : askC x = 0) : stC x = 0 ∧ x.1.length = 32 ∧ 0 ≤ x.2.1 ∧ x.2.1 < 200 ∧ 0 ≤ x.2.2 ∧ x.2.2 ≤ 99 := by
  unfold askC at h
  by_cases h1 : stC x = 0
  · rw [if_pos h1] at h
    have := st_parts h1
    by_cases h2 : 200 ≤ x.2.1
    · rw [if_pos h2] at h; exact absurd h (by decide)
    · exact ⟨h1, by omega⟩
  · rw [if_neg h1] at h; exact absurd h h1
theorem sr_parts {x : StreamD} {kind : Int} {plain : List UInt8} {pad : Int} (h : srC x kind plain pad = 0) : askC x = 0 ∧ kindB kind = true ∧ (0 ≤ pad ∧ pad ≤ 16) ∧ plain.length ≤ 200 := by
  unfold srC at h
  by_cases ha : askC x = 0
  · rw [if_pos ha] at h
    by_cases h1 : (kindB kind && inB pad 0 16) = true
    · rw [if_pos h1] at h
      have hk2 : kindB kind = true ∧ 0 ≤ pad ∧ pad ≤ 16 := by simpa [inB] using h1
      by_cases h2 : plain.length ≤ 200
      · exact ⟨ha, hk2.1, hk2.2, h2⟩
      · rw [if_neg h2] at h; exact absurd h (by decide)
    · rw [if_neg h1] at h; exact absurd h (by decide)
  · rw [if_neg ha] at h; exact absurd h ha
theorem hr_parts {x : StreamD} {r : List UInt8} (h : hrC x r = 0) : askC x = 0 ∧ bodyOk r = true ∧ oC x r = 0 ∧ inC (oL x r) = 0 := by
  unfold hrC at h
  by_cases ha : askC x = 0
  · rw [if_pos ha] at h
    by_cases h1 : bodyOk r = true
    · rw [if_pos h1] at h
      by_cases h2 : oC x r = 0
      · rw [if_pos h2] at h; exact ⟨ha, h1, h2, h⟩
      · rw [if_neg h2] at h; exact absurd h h2
    · rw [if_neg h1] at h; exact absurd h (by decide)
  · rw [if_neg ha] at h; exact absurd h ha
theorem badR_T (c : Int) : recordResultT (badR c) = 0 := rfl
theorem koD_small (s : List UInt8) : keysResultT (koD s) ≤ 1048576 := by
  unfold koD
  split
  · show (keyN s).length + (baseN s).length ≤ _
    rw [keyN_len, baseN_len]; decide
  · exact Nat.zero_le _
theorem srD_small (x : StreamD) (kind : Int) (plain : List UInt8) (pad : Int) : recordResultT (srD x kind plain pad) ≤ 1048576 := by
  unfold srD
  split
  · rename_i h
    obtain ⟨ha, -, hp, hl⟩ := sr_parts h
    have h2 := (ask_parts ha).2.1
    show (recN x (innerN kind plain pad)).length + x.1.length ≤ _
    rw [recN_len, innerN_len]; omega
  · rw [badR_T]; exact Nat.zero_le _
theorem hrD_small (x : StreamD) (r : List UInt8) : recordResultT (hrD x r) ≤ 1048576 := by
  unfold hrD
  split
  · rename_i h
    obtain ⟨ha, -, ho, hi⟩ := hr_parts h
    have h2 := (ask_parts ha).2.1
    have h3 : nzN (oL x r) - 1 ≤ 200 := by
      unfold inC at hi
      split at hi
      · exact absurd hi (by decide)
      · split at hi
        · split at hi
          · exact absurd hi (by decide)
          · omega
        · exact absurd hi (by decide)
    show ((oL x r).take (nzN (oL x r) - 1)).length + x.1.length ≤ _
    rw [List.length_take]; omega
  · rw [badR_T]; exact Nat.zero_le _
theorem usD_small (x : StreamD) : recordResultT (usD x) ≤ 1048576 := by
  unfold usD
  split
  · show 0 + (expLabN x.1 updLab [] 32).length ≤ _
    rw [expLabN_len]; decide
  · rw [badR_T]; exact Nat.zero_le _
/-- What is sent is heard. -/
theorem sent_heard {x : StreamD} {kind : Int} {plain : List UInt8} {pad : Int} (h : srC x kind plain pad = 0) :
    hrD x (recN x (innerN kind plain pad)) = (0, kind, plain, nextS x) := by
  have ha : askC x = 0 := by
    unfold srC at h
    by_cases h1 : askC x = 0
    · exact h1
    · rw [if_neg h1] at h; exact h
  unfold srC at h
  rw [if_pos ha] at h
  have hk : (kindB kind && inB pad 0 16) = true := by
    by_cases h1 : (kindB kind && inB pad 0 16) = true
    · exact h1
    · rw [if_neg h1] at h; exact absurd h (by decide)
  rw [if_pos hk] at h
  have hp : plain.length ≤ 200 := by
    by_cases h1 : plain.length ≤ 200
    · exact h1
    · rw [if_neg h1] at h; exact absurd h (by decide)
  have hk2 : kindB kind = true ∧ 0 ≤ pad ∧ pad ≤ 16 := by simpa [inB] using hk
  have hil : (innerN kind plain pad).length ≤ 220 := by rw [innerN_len]; omega
  obtain ⟨i1, i2, i3, i4⟩ := inner_heard (pad := pad) hk2.1 hp
  have ho := open_seal (keyN x.1) (nonceS x) (headN (innerN kind plain pad).length) (innerN kind plain pad) hil
  have oc : oC x (recN x (innerN kind plain pad)) = 0 := by unfold oC; rw [recN_head, recN_body]; exact ho.1
  have ol : oL x (recN x (innerN kind plain pad)) = innerN kind plain pad := by unfold oL; rw [recN_head, recN_body]; exact ho.2
  have hc : hrC x (recN x (innerN kind plain pad)) = 0 := by unfold hrC; rw [if_pos ha, recN_body_ok x _ hil, if_pos rfl, if_pos oc, ol, i1]
  unfold hrD
  rw [if_pos hc, ol, i3, i4]
theorem cut_one {x : StreamD} {inner : List UInt8} (h : inner.length ≤ 220) : crC (recN x inner) = 0 ∧ crL (recN x inner) = [recN x inner] := by
  have hl := recN_len x inner
  have hn : numR (recN x inner) 0 = inner.length + 16 := by unfold numR; rw [Nat.zero_add]; exact recN_num x inner h
  have e : cutR (recN x inner) 0 [] = (0, [recN x inner]) := by
    rw [cutR_next (by omega) (by omega) (by omega) (by omega) (by simp), cutR_end (by omega), hn, List.drop_zero, List.take_of_length_le (by omega)]
    rfl
  unfold crC crL
  rw [if_pos (by omega), if_pos (by omega), e]
  exact ⟨rfl, rfl⟩
end Go.Proofs.YtdemfbbjdnjolaaDoor

