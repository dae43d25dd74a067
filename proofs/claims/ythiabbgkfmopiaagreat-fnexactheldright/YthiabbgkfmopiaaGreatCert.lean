/- Chapter 12 as plain functions on data, with no program in it: certificates that are right (okC), found by number (atC), a list's fault (ctC), packed and read back (pcL, unC), signatures' faults (sgC), who may sign (swC, swD), what is found at a place (ckB). No conditions but those in each line. -/
import Derived.Test.YthiabbgkfmopiaaGreatJoint14
import Derived.Test.YthiabbgkfmopiaaGreatJoint8
import Derived.Test.YthiabbgkfmopiaaGreatJoint9
namespace Go.Proofs.YthiabbgkfmopiaaGreat
open Go.RowKit

def okC (c : CertD) : Bool := inB c.1 1 99 && inB c.2.1 1 9 && inB c.2.2 0 9999
def zC : CertD := (0, 0, 0)
def hasC (l : List CertD) (id : Int) : Bool := l.any fun c => c.1 == id
def atC (l : List CertD) (id : Int) : Option CertD := l.find? fun c => c.1 == id
def foC (l : List CertD) (id : Int) : CertD := (atC l id).getD zC
def cgC : List CertD → List CertD → Int
  | _, [] => 0
  | s, c :: t => if okC c then (if hasC s c.1 then 6 else cgC (s ++ [c]) t) else 3
def ctC (l : List CertD) : Int := if l.length ≤ 8 then cgC [] l else 2
def lkD (l : List CertD) (id : Int) : Int × CertD := if ctC l = 0 then (if hasC l id then (0, foC l id) else (4, zC)) else (ctC l, zC)

theorem okC_parts {c : CertD} (h : okC c = true) : 1 ≤ c.1 ∧ c.1 ≤ 99 ∧ 1 ≤ c.2.1 ∧ c.2.1 ≤ 9 ∧ 0 ≤ c.2.2 ∧ c.2.2 ≤ 9999 := by
  simp only [okC, inB, Bool.and_eq_true, decide_eq_true_eq] at h
  omega
theorem okC_mk {c : CertD} (h1 : 1 ≤ c.1) (h2 : c.1 ≤ 99) (h3 : 1 ≤ c.2.1) (h4 : c.2.1 ≤ 9) (h5 : 0 ≤ c.2.2) (h6 : c.2.2 ≤ 9999) : okC c = true := by
  simp only [okC, inB, Bool.and_eq_true, decide_eq_true_eq]
  omega
theorem hasC_take {l : List CertD} {k : Nat} {a : CertD} {id : Int} (h : l[k]? = some a) : hasC (l.take (k + 1)) id = (hasC (l.take k) id || (a.1 == id)) := by
  rw [List.take_add_one, h]; simp [hasC]
theorem hasC_zero (id : Int) (l : List CertD) : hasC (l.take 0) id = false := by simp [hasC]
theorem foC_at {l : List CertD} {k : Nat} {a : CertD} {id : Int} (h : l[k]? = some a) (hn : hasC (l.take k) id = false) (he : a.1 = id) : foC l id = a := by
  have e : l = l.take k ++ a :: l.drop (k + 1) := by rw [← drop_at h, List.take_append_drop]
  have h2 : (l.take k).find? (fun c => c.1 == id) = none := by
    rw [List.find?_eq_none]; intro x hx; have := hn; simp only [hasC, List.any_eq_false] at this; exact this x hx
  unfold foC atC
  conv => lhs; rw [e]
  rw [List.find?_append, h2]
  simp [he]
theorem hasC_at {l : List CertD} {k : Nat} {a : CertD} {id : Int} (h : l[k]? = some a) (he : a.1 = id) : hasC l id = true := by
  simp only [hasC, List.any_eq_true]; exact ⟨a, List.mem_of_getElem? h, by simpa using he⟩
theorem foC_none {l : List CertD} {id : Int} (h : hasC l id = false) : foC l id = zC := by
  have h2 : l.find? (fun c => c.1 == id) = none := by
    rw [List.find?_eq_none]; intro x hx; simp only [hasC, List.any_eq_false] at h; exact h x hx
  unfold foC atC; rw [h2]; rfl
theorem foC_mem {l : List CertD} {id : Int} (h : hasC l id = true) : ∃ k : Nat, l[k]? = some (foC l id) ∧ (foC l id).1 = id := by
  cases hf : l.find? (fun c => c.1 == id) with
  | none =>
    rw [List.find?_eq_none] at hf
    simp only [hasC, List.any_eq_true] at h
    obtain ⟨x, hx, hx2⟩ := h
    exact absurd hx2 (hf x hx)
  | some c =>
    have h1 := List.find?_some hf
    obtain ⟨k, hk⟩ := List.mem_iff_getElem?.1 (List.mem_of_find?_eq_some hf)
    have e : foC l id = c := by unfold foC atC; rw [hf]; rfl
    rw [e]
    exact ⟨k, hk, by simpa using h1⟩
theorem cgC_step {l : List CertD} {k : Nat} {a : CertD} (h : l[k]? = some a) (ho : okC a = true) (hn : hasC (l.take k) a.1 = false) : cgC (l.take k) (l.drop k) = cgC (l.take (k + 1)) (l.drop (k + 1)) := by
  rw [drop_at h, cgC, if_pos ho, if_neg (by rw [hn]; simp), List.take_add_one, h]; rfl
theorem cgC_bad {l : List CertD} {k : Nat} {a : CertD} (h : l[k]? = some a) (ho : okC a = false) : cgC (l.take k) (l.drop k) = 3 := by
  rw [drop_at h, cgC, if_neg (by rw [ho]; simp)]
theorem cgC_taken {l : List CertD} {k : Nat} {a : CertD} (h : l[k]? = some a) (ho : okC a = true) (hn : hasC (l.take k) a.1 = true) : cgC (l.take k) (l.drop k) = 6 := by
  rw [drop_at h, cgC, if_pos ho, if_pos hn]
theorem cgC_end (l : List CertD) : cgC (l.take l.length) (l.drop l.length) = 0 := by rw [List.drop_length]; rfl
theorem cgC_all : ∀ (t s : List CertD), cgC s t = 0 → ∀ c ∈ t, okC c = true
  | [], _, _, c, hc => by cases hc
  | a :: t, s, h, c, hc => by
    rw [cgC] at h
    by_cases ha : okC a = true
    · rw [if_pos ha] at h
      by_cases hb : hasC s a.1 = true
      · rw [if_pos hb] at h; cases h
      · rw [if_neg hb] at h
        rcases List.mem_cons.1 hc with rfl | hc
        · exact ha
        · exact cgC_all t _ h c hc
    · rw [if_neg ha] at h; cases h
theorem ctC_all {l : List CertD} (h : ctC l = 0) : ∀ c ∈ l, okC c = true := by
  unfold ctC at h
  by_cases hl : l.length ≤ 8
  · rw [if_pos hl] at h; exact cgC_all l [] h
  · rw [if_neg hl] at h; cases h
theorem ctC_len {l : List CertD} (h : ctC l = 0) : l.length ≤ 8 := by
  unfold ctC at h
  by_cases hl : l.length ≤ 8
  · exact hl
  · rw [if_neg hl] at h; cases h
theorem foC_ok {l : List CertD} {id : Int} (h : ∀ c ∈ l, okC c = true) (hh : hasC l id = true) : okC (foC l id) = true := by
  obtain ⟨k, hk, -⟩ := foC_mem hh; exact h _ (List.mem_of_getElem? hk)
theorem lkD_ok {l : List CertD} {id : Int} (h : (lkD l id).1 = 0) : ctC l = 0 ∧ hasC l id = true ∧ (lkD l id).2 = foC l id := by
  unfold lkD at h ⊢
  by_cases h1 : ctC l = 0
  · rw [if_pos h1] at h ⊢
    cases h2 : hasC l id
    · rw [h2] at h; simp at h
    · exact ⟨h1, rfl, by simp⟩
  · rw [if_neg h1] at h; exact absurd h h1

/-! ## Packed and read back -/
def pcL (c : CertD) : List UInt8 := [UInt8.ofNat c.1.toNat, UInt8.ofNat c.2.1.toNat, UInt8.ofNat (c.2.2.toNat / 256), UInt8.ofNat c.2.2.toNat]
def pcD (c : CertD) : Int × List UInt8 := if okC c then (0, pcL c) else (3, [])
theorem pcD_len (c : CertD) : (pcD c).2.length ≤ 1048576 := by unfold pcD; cases okC c <;> simp [pcL]
def rdC (a b c d : UInt8) : CertD := (a.toNat, b.toNat, c.toNat * 256 + d.toNat)
def ucD : List UInt8 → Int × CertD
  | [a, b, c, d] => if okC (rdC a b c d) then (0, rdC a b c d) else (5, zC)
  | _ => (5, zC)
theorem ucD_long {l : List UInt8} (h : l.length ≠ 4) : ucD l = (5, zC) := by
  match l, h with
  | [], _ => rfl
  | [_], _ => rfl
  | [_, _], _ => rfl
  | [_, _, _], _ => rfl
  | [_, _, _, _], h => exact absurd rfl h
  | _ :: _ :: _ :: _ :: _ :: _, _ => rfl
theorem four_of {l : List UInt8} (h : l.length = 4) : ∃ a b c d, l = [a, b, c, d] := by
  match l, h with
  | [a, b, c, d], _ => exact ⟨a, b, c, d, rfl⟩
theorem rdC_pack {c : CertD} (h : okC c = true) : ucD (pcL c) = (0, c) := by
  obtain ⟨a, b, d⟩ := c
  have hp := okC_parts h
  simp only at hp
  have e : rdC (UInt8.ofNat a.toNat) (UInt8.ofNat b.toNat) (UInt8.ofNat (d.toNat / 256)) (UInt8.ofNat d.toNat) = (a, b, d) := by
    simp only [rdC, UInt8.toNat_ofNat', Prod.mk.injEq]
    omega
  show (if okC (rdC _ _ _ _) then _ else _) = _
  rw [e, if_pos h]
theorem pcL_read {l : List UInt8} (h : (ucD l).1 = 0) : okC (ucD l).2 = true ∧ pcL (ucD l).2 = l := by
  by_cases h4 : l.length = 4
  · obtain ⟨a, b, c, d, rfl⟩ := four_of h4
    have e : ucD [a, b, c, d] = if okC (rdC a b c d) then (0, rdC a b c d) else (5, zC) := rfl
    rw [e] at h ⊢
    cases ho : okC (rdC a b c d)
    · rw [ho] at h; cases h
    · refine ⟨ho, ?_⟩
      have ha := a.toNat_lt; have hb := b.toNat_lt; have hc := c.toNat_lt; have hd := d.toNat_lt
      have q : ∀ (x : UInt8) (n : Nat), n % 256 = x.toNat → UInt8.ofNat n = x := fun x n hn => by
        apply UInt8.toNat_inj.1; rw [UInt8.toNat_ofNat']; exact hn
      simp only [pcL, rdC, if_true, List.cons.injEq, and_true]
      refine ⟨q _ _ (by omega), q _ _ (by omega), q _ _ (by omega), q _ _ (by omega)⟩
  · rw [ucD_long h4] at h; cases h

/-! ## Signatures -/
def sgO (s : SignD) : Int := if inB s.1 1 99 && inB s.2.1 0 9 then (if is32 s.2.2 then 0 else 1) else 3
def sgF : List SignD → Int
  | [] => 0
  | s :: t => if sgO s = 0 then sgF t else sgO s
def sgC (l : List SignD) : Int := if l.length ≤ 40 then sgF l else 2
theorem sgF_step {l : List SignD} {k : Nat} {a : SignD} (h : l[k]? = some a) (h0 : sgO a = 0) : sgF (l.drop k) = sgF (l.drop (k + 1)) := by rw [drop_at h, sgF, if_pos h0]
theorem sgF_bad {l : List SignD} {k : Nat} {a : SignD} (h : l[k]? = some a) (h0 : sgO a ≠ 0) : sgF (l.drop k) = sgO a := by rw [drop_at h, sgF, if_neg h0]
theorem sgF_end (l : List SignD) : sgF (l.drop l.length) = 0 := by rw [List.drop_length]; rfl
theorem sgF_all : ∀ {l : List SignD}, sgF l = 0 ↔ ∀ s ∈ l, sgO s = 0
  | [] => by simp [sgF]
  | a :: t => by
    rw [sgF]
    by_cases ha : sgO a = 0
    · rw [if_pos ha, sgF_all]; simp [ha]
    · rw [if_neg ha]; simp [ha]
theorem sgC_all {l : List SignD} : sgC l = 0 ↔ l.length ≤ 40 ∧ ∀ s ∈ l, sgO s = 0 := by
  unfold sgC
  by_cases hl : l.length ≤ 40
  · rw [if_pos hl, sgF_all]; simp [hl]
  · rw [if_neg hl]; simp [hl]
theorem sgO_parts {s : SignD} (h : sgO s = 0) : 1 ≤ s.1 ∧ s.1 ≤ 99 ∧ 0 ≤ s.2.1 ∧ s.2.1 ≤ 9 ∧ s.2.2.length = 32 := by
  unfold sgO at h
  cases h1 : (inB s.1 1 99 && inB s.2.1 0 9)
  · rw [h1] at h; cases h
  · rw [h1, if_pos rfl] at h
    cases h2 : is32 s.2.2
    · rw [h2] at h; cases h
    · simp only [inB, Bool.and_eq_true, decide_eq_true_eq] at h1
      simp only [is32, decide_eq_true_eq] at h2
      omega
theorem sgO_mk {s : SignD} (h1 : 1 ≤ s.1) (h2 : s.1 ≤ 99) (h3 : inB s.2.1 0 9 = true) (h4 : is32 s.2.2 = true) : sgO s = 0 := by
  unfold sgO; rw [h3, h4, inB_true h1 h2]; rfl
def lkB (leaked : List Int) (id : Int) : Bool := leaked.any fun x => x == id
theorem lkB_take {l : List Int} {k : Nat} {a : Int} {id : Int} (h : l[k]? = some a) : lkB (l.take (k + 1)) id = (lkB (l.take k) id || (a == id)) := by
  rw [List.take_add_one, h]; simp [lkB]
def swO (list : List CertD) (leaked : List Int) (signs : List SignD) (id by' : Int) (d : List UInt8) : Int :=
  if hasC list id then (if inB by' 0 9 then (if is32 d then (if decide ((foC list id).2.1 = by') || lkB leaked id then (if signs.length < 40 then 0 else 2) else 7) else 1) else 3) else 4
def swC (list : List CertD) (leaked : List Int) (signs : List SignD) (id by' : Int) (d : List UInt8) : Int :=
  if ctC list = 0 then (if sgC signs = 0 then swO list leaked signs id by' d else sgC signs) else ctC list
abbrev SignsResultD := Int × Int × List SignD
def swD (list : List CertD) (leaked : List Int) (signs : List SignD) (id by' : Int) (d : List UInt8) : SignsResultD :=
  if swC list leaked signs id by' d = 0 then (0, signs.length, signs ++ [(id, by', d)]) else (swC list leaked signs id by' d, 0, [])
theorem swO_ok {list : List CertD} {leaked : List Int} {signs : List SignD} {id by' : Int} {d : List UInt8} (h : swO list leaked signs id by' d = 0) :
    hasC list id = true ∧ inB by' 0 9 = true ∧ is32 d = true ∧ (decide ((foC list id).2.1 = by') || lkB leaked id) = true ∧ signs.length < 40 := by
  unfold swO at h
  cases h1 : hasC list id
  · rw [h1] at h; cases h
  rw [h1, if_pos rfl] at h
  cases h2 : inB by' 0 9
  · rw [h2] at h; cases h
  rw [h2, if_pos rfl] at h
  cases h3 : is32 d
  · rw [h3] at h; cases h
  rw [h3, if_pos rfl] at h
  cases h4 : (decide ((foC list id).2.1 = by') || lkB leaked id)
  · rw [h4] at h; cases h
  rw [h4, if_pos rfl] at h
  by_cases h5 : signs.length < 40
  · exact ⟨rfl, rfl, rfl, rfl, h5⟩
  · rw [if_neg h5] at h; cases h
theorem swC_ok {list : List CertD} {leaked : List Int} {signs : List SignD} {id by' : Int} {d : List UInt8} (h : swC list leaked signs id by' d = 0) :
    ctC list = 0 ∧ sgC signs = 0 ∧ swO list leaked signs id by' d = 0 := by
  unfold swC at h
  by_cases h1 : ctC list = 0
  · rw [if_pos h1] at h
    by_cases h2 : sgC signs = 0
    · rw [if_pos h2] at h; exact ⟨h1, h2, h⟩
    · rw [if_neg h2] at h; exact absurd h h2
  · rw [if_neg h1] at h; exact absurd h h1
theorem sw_sgC {list : List CertD} {leaked : List Int} {signs : List SignD} {id by' : Int} {d : List UInt8} (h : swC list leaked signs id by' d = 0) : sgC (signs ++ [(id, by', d)]) = 0 := by
  obtain ⟨h1, h2, h3⟩ := swC_ok h
  obtain ⟨g1, g2, g3, -, g5⟩ := swO_ok h3
  obtain ⟨k, hk, he⟩ := foC_mem g1
  have hp := okC_parts (ctC_all h1 _ (List.mem_of_getElem? hk))
  rw [he] at hp
  refine sgC_all.2 ⟨by simp; omega, fun s hs => ?_⟩
  rcases List.mem_append.1 hs with hs | hs
  · exact (sgC_all.1 h2).2 s hs
  · rcases List.mem_singleton.1 hs with rfl
    exact sgO_mk (s := (id, by', d)) hp.1 hp.2.1 g2 g3
def ckA (signs : List SignD) (place id : Int) (d : List UInt8) : Bool :=
  decide (0 ≤ place) && ((signs[place.toNat]?).map fun s => (s.1 == id) && decide (s.2.2 = d)).getD false
def ckB (signs : List SignD) (place id : Int) (d : List UInt8) : Bool := decide (sgC signs = 0) && ckA signs place id d
theorem ckA_at {signs : List SignD} {k : Nat} {s : SignD} (h : signs[k]? = some s) (id : Int) (d : List UInt8) : ckA signs k id d = ((s.1 == id) && decide (s.2.2 = d)) := by
  unfold ckA; rw [Int.toNat_natCast, h]; simp
theorem ckA_out {signs : List SignD} {place : Int} (h : ¬ (0 ≤ place ∧ place < signs.length)) (id : Int) (d : List UInt8) : ckA signs place id d = false := by
  unfold ckA
  by_cases h0 : 0 ≤ place
  · rw [List.getElem?_eq_none (by omega)]; simp
  · simp [h0]
theorem ck_old {signs : List SignD} {k : Nat} {s x : SignD} (h : signs[k]? = some s) (hs : sgC (signs ++ [x]) = 0) : ckB (signs ++ [x]) k s.1 s.2.2 = true := by
  have h2 : (signs ++ [x])[k]? = some s := by rw [List.getElem?_append_left (List.getElem?_eq_some_iff.1 h).1]; exact h
  unfold ckB; rw [ckA_at h2, hs]; simp
theorem ck_new {signs : List SignD} {x : SignD} (hs : sgC (signs ++ [x]) = 0) : ckB (signs ++ [x]) signs.length x.1 x.2.2 = true := by
  have h2 : (signs ++ [x])[signs.length]? = some x := by rw [List.getElem?_append_right (Nat.le_refl _), Nat.sub_self]; rfl
  unfold ckB; rw [ckA_at h2, hs]; simp
end Go.Proofs.YthiabbgkfmopiaaGreat

