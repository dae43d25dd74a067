/- The pieces of data as the program's iterator tells them, one by one, each with its code, and that what CutRecords answers is told by them. Plain mathematics, no program in it. No conditions but those in each line. -/
import Derived.Test.YtdemfbbjdnjolabRecC
namespace Go.Proofs.Ytdemfbbjdnjolab
open Go.RowKit

/-- The pieces from a place on, behind so many others. -/
def itemsR (data : List UInt8) (at_ k : Nat) : List (Int × List UInt8) :=
  if at_ < data.length then
    if data.length - at_ < 5 then [(5, [])]
    else if 240 < numR data at_ then [(3, [])]
    else if data.length - at_ - 5 < numR data at_ then [(5, [])]
    else if k = 8 then [(2, [])]
    else (0, (data.drop at_).take (5 + numR data at_)) :: itemsR data (at_ + 5 + numR data at_) (k + 1)
  else []
termination_by data.length - at_
theorem itemsR_end {data : List UInt8} {at_ k : Nat} (h : ¬ at_ < data.length) : itemsR data at_ k = [] := by rw [itemsR, if_neg h]
theorem itemsR_a {data : List UInt8} {at_ k : Nat} (h : at_ < data.length) (h1 : data.length - at_ < 5) : itemsR data at_ k = [(5, [])] := by rw [itemsR, if_pos h, if_pos h1]
theorem itemsR_b {data : List UInt8} {at_ k : Nat} (h : at_ < data.length) (h1 : ¬ data.length - at_ < 5) (h2 : 240 < numR data at_) : itemsR data at_ k = [(3, [])] := by rw [itemsR, if_pos h, if_neg h1, if_pos h2]
theorem itemsR_c {data : List UInt8} {at_ k : Nat} (h : at_ < data.length) (h1 : ¬ data.length - at_ < 5) (h2 : ¬ 240 < numR data at_) (h3 : data.length - at_ - 5 < numR data at_) : itemsR data at_ k = [(5, [])] := by rw [itemsR, if_pos h, if_neg h1, if_neg h2, if_pos h3]
theorem itemsR_d {data : List UInt8} {at_ k : Nat} (h : at_ < data.length) (h1 : ¬ data.length - at_ < 5) (h2 : ¬ 240 < numR data at_) (h3 : ¬ data.length - at_ - 5 < numR data at_) (h4 : k = 8) : itemsR data at_ k = [(2, [])] := by rw [itemsR, if_pos h, if_neg h1, if_neg h2, if_neg h3, if_pos h4]
theorem itemsR_next {data : List UInt8} {at_ k : Nat} (h : at_ < data.length) (h1 : ¬ data.length - at_ < 5) (h2 : ¬ 240 < numR data at_) (h3 : ¬ data.length - at_ - 5 < numR data at_) (h4 : ¬ k = 8) : itemsR data at_ k = (0, (data.drop at_).take (5 + numR data at_)) :: itemsR data (at_ + 5 + numR data at_) (k + 1) := by
  conv => lhs; rw [itemsR, if_pos h, if_neg h1, if_neg h2, if_neg h3, if_neg h4]
/-- One step of it: the first piece's code, its bytes, and what is behind it. -/
def codeR (data : List UInt8) (at_ k : Nat) : Int := if data.length - at_ < 5 then 5 else if 240 < numR data at_ then 3 else if data.length - at_ - 5 < numR data at_ then 5 else if k = 8 then 2 else 0
theorem itemsR_bad {data : List UInt8} {at_ k : Nat} (h : at_ < data.length) (hc : codeR data at_ k ≠ 0) : itemsR data at_ k = [(codeR data at_ k, [])] := by
  unfold codeR at *
  by_cases h1 : data.length - at_ < 5
  · rw [itemsR_a h h1, if_pos h1]
  · rw [if_neg h1] at hc ⊢
    by_cases h2 : 240 < numR data at_
    · rw [itemsR_b h h1 h2, if_pos h2]
    · rw [if_neg h2] at hc ⊢
      by_cases h3 : data.length - at_ - 5 < numR data at_
      · rw [itemsR_c h h1 h2 h3, if_pos h3]
      · rw [if_neg h3] at hc ⊢
        by_cases h4 : k = 8
        · rw [itemsR_d h h1 h2 h3 h4, if_pos h4]
        · rw [if_neg h4] at hc; exact absurd rfl hc
theorem itemsR_good {data : List UInt8} {at_ k : Nat} (h : at_ < data.length) (hc : codeR data at_ k = 0) :
    itemsR data at_ k = (0, (data.drop at_).take (5 + numR data at_)) :: itemsR data (at_ + 5 + numR data at_) (k + 1) ∧ at_ + 5 + numR data at_ ≤ data.length ∧ numR data at_ ≤ 240 ∧ k ≠ 8 := by
  unfold codeR at hc
  by_cases h1 : data.length - at_ < 5
  · rw [if_pos h1] at hc; exact absurd hc (by decide)
  · rw [if_neg h1] at hc
    by_cases h2 : 240 < numR data at_
    · rw [if_pos h2] at hc; exact absurd hc (by decide)
    · rw [if_neg h2] at hc
      by_cases h3 : data.length - at_ - 5 < numR data at_
      · rw [if_pos h3] at hc; exact absurd hc (by decide)
      · rw [if_neg h3] at hc
        by_cases h4 : k = 8
        · rw [if_pos h4] at hc; exact absurd hc (by decide)
        · exact ⟨itemsR_next h h1 h2 h3 h4, by omega, by omega, h4⟩
/-- Where every piece is whole the answer is the pieces. -/
theorem cut_all (data : List UInt8) : ∀ (m at_ : Nat) (out ks : List (List UInt8)), data.length - at_ ≤ m → out.length ≤ 8 → itemsR data at_ out.length = ks.map (fun b => ((0 : Int), b)) → cutR data at_ out = (0, out ++ ks) := by
  intro m
  induction m with
  | zero =>
    intro at_ out ks hm ho h
    rw [itemsR_end (by omega)] at h
    have : ks = [] := by cases ks with | nil => rfl | cons a b => simp at h
    rw [cutR_end (by omega), this, List.append_nil]
  | succ m ih =>
    intro at_ out ks hm ho h
    by_cases hl : at_ < data.length
    · by_cases hc : codeR data at_ out.length = 0
      · obtain ⟨e, h1, h2, h4⟩ := itemsR_good hl hc
        rw [e] at h
        cases ks with
        | nil => simp at h
        | cons b ks =>
          simp only [List.map_cons, List.cons.injEq, Prod.mk.injEq, true_and] at h
          obtain ⟨hb, ht⟩ := h
          rw [cutR_next hl (by omega) (by omega) (by omega) (by omega), hb, ih _ (out ++ [b]) ks (by omega) (by rw [List.length_append, List.length_singleton]; omega) (by rw [List.length_append, List.length_singleton]; exact ht)]
          simp
      · rw [itemsR_bad hl hc] at h
        cases ks with
        | nil => simp at h
        | cons b ks => simp only [List.map_cons, List.cons.injEq, Prod.mk.injEq] at h; exact absurd h.1.1 hc
    · rw [itemsR_end hl] at h
      have : ks = [] := by cases ks with | nil => rfl | cons a b => simp at h
      rw [cutR_end hl, this, List.append_nil]
/-- Where a piece has a code that is the answer. -/
theorem cut_bad (data : List UInt8) : ∀ (m at_ : Nat) (out ks : List (List UInt8)) (c : Int), data.length - at_ ≤ m → out.length ≤ 8 → c ≠ 0 → ks.map (fun b => ((0 : Int), b)) ++ [(c, [])] <+: itemsR data at_ out.length → cutR data at_ out = (c, []) := by
  intro m
  induction m with
  | zero =>
    intro at_ out ks c hm ho hc h
    rw [itemsR_end (by omega)] at h
    exact absurd (List.prefix_nil.1 h) (by simp)
  | succ m ih =>
    intro at_ out ks c hm ho hc0 h
    by_cases hl : at_ < data.length
    · by_cases hc : codeR data at_ out.length = 0
      · obtain ⟨e, h1, h2, h4⟩ := itemsR_good hl hc
        rw [e] at h
        cases ks with
        | nil =>
          simp only [List.map_nil, List.nil_append, List.cons_prefix_cons, Prod.mk.injEq] at h
          exact absurd h.1.1 hc0
        | cons b ks =>
          simp only [List.map_cons, List.cons_append, List.cons_prefix_cons, Prod.mk.injEq, true_and] at h
          obtain ⟨hb, ht⟩ := h
          rw [cutR_next hl (by omega) (by omega) (by omega) (by omega), ← hb]
          exact ih _ (out ++ [b]) ks c (by omega) (by rw [List.length_append, List.length_singleton]; omega) hc0 (by rw [List.length_append, List.length_singleton]; exact ht)
      · rw [itemsR_bad hl hc] at h
        cases ks with
        | nil =>
          simp only [List.map_nil, List.nil_append, List.cons_prefix_cons, Prod.mk.injEq, and_true] at h
          have hcc := h.1
          unfold codeR at hcc
          by_cases h1 : data.length - at_ < 5
          · rw [cutR_a hl h1, hcc, if_pos h1]
          · rw [if_neg h1] at hcc
            by_cases h2 : 240 < numR data at_
            · rw [cutR_b hl h1 h2, hcc, if_pos h2]
            · rw [if_neg h2] at hcc
              by_cases h3 : data.length - at_ - 5 < numR data at_
              · rw [cutR_c hl h1 h2 h3, hcc, if_pos h3]
              · rw [if_neg h3] at hcc
                by_cases h4 : out.length = 8
                · rw [cutR_d hl h1 h2 h3 (by omega), hcc, if_pos h4]
                · rw [if_neg h4] at hcc; exact absurd hcc hc0
        | cons b ks =>
          simp only [List.map_cons, List.cons_append, List.cons_prefix_cons, Prod.mk.injEq] at h
          exact absurd h.1.1.symm hc
    · rw [itemsR_end hl] at h
      exact absurd (List.prefix_nil.1 h) (by simp)
end Go.Proofs.Ytdemfbbjdnjolab
