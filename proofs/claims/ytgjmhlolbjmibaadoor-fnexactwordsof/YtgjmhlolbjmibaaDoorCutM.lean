/- What strings.Split gives at one byte is a text cut at it (cutL); a text that is cut up to a place (CutAt). No program in it. -/
import Derived.Test.YtgjmhlolbjmibaaDoorTxt
import Derived.Lib.SplitLaws
namespace Go.Proofs.YtgjmhlolbjmibaaDoor
open Go.RowKit

theorem index_one (c : UInt8) : ∀ l : List UInt8, Go.Lib.index l [c] = Go.Lib.indexByte l c
  | [] => rfl
  | b :: l => by
    rw [Go.Lib.index, Go.Lib.indexByte, index_one c l]
    have : ([c] : List UInt8).isPrefixOf (b :: l) = (b == c) := by
      rw [List.isPrefixOf_cons_cons, show ([] : List UInt8).isPrefixOf l = true by cases l <;> rfl, Bool.and_true, Bool.eq_iff_iff, beq_iff_eq, beq_iff_eq]
      exact eq_comm
    rw [this]
theorem splitK_cut (c : UInt8) : ∀ (n : Nat) (s : List UInt8), s.length ≤ n → Go.Lib.splitK [c] 0 (Go.Lib.count s [c]) s = cutL c s
  | n, s, hn => by
    rcases Go.Lib.index_spec s [c] with ⟨h, -⟩ | ⟨i, h, hi, ho, -⟩
    · rw [Go.Lib.count_miss h, Go.Lib.splitK]
      rw [index_one] at h
      rw [cutL_none c s fun x hx e => by
        obtain ⟨k, hk, e2⟩ := List.mem_iff_getElem.1 hx
        exact Go.Lib.indexByte_none h k (by rw [List.getElem?_eq_getElem hk, e2, e])]
    · rw [Go.Lib.count_hit (by simp) h, Nat.add_comm, Go.Lib.splitK]
      have hr := Go.Lib.index_room s [c] (by omega)
      rw [h] at hr
      have hlt : i < s.length := by simp at hr; omega
      rw [h, if_neg (by simp)]
      rw [index_one] at h
      obtain ⟨hs, hno⟩ := Go.Lib.indexByte_some h
      have hc : s = s.take i ++ c :: s.drop (i + 1) := by
        have e := List.getElem?_eq_getElem hlt
        rw [e] at hs
        have e2 : s[i] = c := Option.some.inj hs
        conv => lhs; rw [← List.take_append_drop i s]
        rw [List.drop_eq_getElem_cons hlt, e2]
      match n, hn with
      | 0, hn => omega
      | n + 1, hn =>
        have ih := splitK_cut c n (s.drop (i + 1)) (by simp; omega)
        simp only [Int.toNat_natCast, Nat.add_zero, List.length_cons, List.length_nil, Nat.zero_add]
        rw [ih]
        conv => rhs; rw [hc]
        rw [cutL_at c _ _ fun x hx e => by
          obtain ⟨k, hk, e2⟩ := List.mem_iff_getElem.1 hx
          rw [List.getElem_take] at e2
          rw [List.length_take] at hk
          exact hno k (by omega) (by rw [List.getElem?_eq_getElem (by omega), e2, e])]
theorem split_cut (c : UInt8) (s : List UInt8) : Go.Lib.split s [c] = cutL c s := splitK_cut c _ s (Nat.le_refl _)
/-- A text that is cut up to its place k: what lies ahead of f is in out. -/
def CutAt (c : UInt8) (l : List UInt8) (out : List (List UInt8)) (f k : Nat) : Prop := f ≤ k ∧ k ≤ l.length ∧ out ++ cutL c (l.drop f) = cutL c l ∧ ∀ x ∈ (l.drop f).take (k - f), x ≠ c
theorem CutAt.zero (c : UInt8) (l : List UInt8) : CutAt c l [] 0 0 := ⟨Nat.le_refl _, Nat.zero_le _, by simp, by simp⟩
theorem CutAt.skip {c : UInt8} {l : List UInt8} {out : List (List UInt8)} {f k : Nat} (h : CutAt c l out f k) (hk : k < l.length) (hn : l[k] ≠ c) : CutAt c l out f (k + 1) := by
  obtain ⟨h1, h2, h3, h4⟩ := h
  refine ⟨by omega, by omega, h3, fun x hx => ?_⟩
  rw [show k + 1 - f = (k - f) + 1 by omega, List.take_add_one] at hx
  rcases List.mem_append.1 hx with hx | hx
  · exact h4 x hx
  · rw [List.getElem?_drop, show f + (k - f) = k by omega, List.getElem?_eq_getElem hk] at hx
    simp at hx
    rw [hx]; exact hn
theorem CutAt.hit {c : UInt8} {l : List UInt8} {out : List (List UInt8)} {f k : Nat} (h : CutAt c l out f k) (hk : k < l.length) (hn : l[k] = c) : CutAt c l (out ++ [(l.drop f).take (k - f)]) (k + 1) (k + 1) := by
  obtain ⟨h1, h2, h3, h4⟩ := h
  refine ⟨Nat.le_refl _, by omega, ?_, by simp⟩
  rw [← h3, List.append_assoc]
  congr 1
  have e : l.drop f = (l.drop f).take (k - f) ++ c :: l.drop (k + 1) := by
    conv => lhs; rw [← List.take_append_drop (k - f) (l.drop f)]
    rw [List.drop_drop, show f + (k - f) = k by omega, List.drop_eq_getElem_cons hk, hn]
  conv => rhs; rw [e]
  rw [cutL_at c _ _ h4]
  rfl
theorem CutAt.done {c : UInt8} {l : List UInt8} {out : List (List UInt8)} {f : Nat} (h : CutAt c l out f l.length) : out ++ [(l.drop f).take (l.length - f)] = cutL c l := by
  obtain ⟨h1, h2, h3, h4⟩ := h
  rw [← h3, List.take_of_length_le (by simp)] at *
  rw [cutL_none c _ h4]

/-- The pieces as texts. -/
theorem splitB_cut (c : UInt8) (l : List UInt8) : (Go.Lib.splitB ⟨#[c]⟩ 0 (Go.Lib.countB (strB l) ⟨#[c]⟩) (strB l)).map Value.string = (cutL c l).map txtV := by
  have h := Go.Lib.splitB_data ⟨#[c]⟩ 0 (Go.Lib.countB (strB l) ⟨#[c]⟩) (strB l)
  rw [show Go.Lib.splitK (⟨#[c]⟩ : ByteArray).data.toList 0 (Go.Lib.countB (strB l) ⟨#[c]⟩) (strB l).data.toList = cutL c l from split_cut c l] at h
  rw [← h, List.map_map]
  refine List.map_congr_left fun x _ => ?_
  show Value.string x = .string (strB x.data.toList)
  rw [strB_toList]
theorem splitB_len (c : UInt8) (l : List UInt8) : (Go.Lib.splitB ⟨#[c]⟩ 0 (Go.Lib.countB (strB l) ⟨#[c]⟩) (strB l)).length = (cutL c l).length := by
  have h := congrArg List.length (splitB_cut c l)
  simpa using h
end Go.Proofs.YtgjmhlolbjmibaaDoor
