/- Chapter 14 as plain functions on data, with no program in it: contexts that are right and no two alike (cxC), what is held (hdC: as the program and the document ask it; hdS: one by one), a session's fault (seF), what asking, hearing, revoking and time leave, and that it is a session again. No conditions but those in each line. -/
import Derived.Test.YthiabbgkfmopiaaGreatAuth
import Derived.Test.YthiabbgkfmopiaaGreatJoint7
import Derived.Test.YthiabbgkfmopiaaGreatSessionC
namespace Go.Proofs.YthiabbgkfmopiaaGreat
open Go.RowKit

abbrev SesD := SessionD
def hsB (l : List (List UInt8)) (c : List UInt8) : Bool := l.any fun d => sameB d c
def cxG : List (List UInt8) → List (List UInt8) → Int
  | _, [] => 0
  | s, c :: t => if ctxB c then (if hsB s c then 6 else cxG (s ++ [c]) t) else 2
def cxC (l : List (List UInt8)) : Int := cxG [] l
def okH (h : HeldD) : Bool := inB h.1 1 99 && inB h.2 0 9999
def Rise (l : List HeldD) : Prop := l.Pairwise fun a b => a.1 < b.1
instance (l : List HeldD) : Decidable (Rise l) := inferInstanceAs (Decidable (l.Pairwise fun a b => a.1 < b.1))
def hdC (l : List HeldD) : Int := if l.all okH then (if Rise l then 0 else 1) else 3
def laB (s : List HeldD) (h : HeldD) : Bool := match s.getLast? with
  | none => true
  | some a => decide (a.1 < h.1)
def hdG : List HeldD → List HeldD → Int
  | _, [] => 0
  | s, h :: t => if okH h then (if laB s h then hdG (s ++ [h]) t else 1) else 3
def hdS (l : List HeldD) : Int := hdG [] l
def lnB (x : SesD) : Bool := decide (x.2.2.1.length ≤ 6 ∧ x.2.2.2.1.length ≤ 40 ∧ x.2.2.2.2.length ≤ 6)
def seF (g : List HeldD → Int) (x : SesD) : Int := if akC x.1 x.2.1 = 0 then (if lnB x then (if cxC (x.2.2.1 ++ x.2.2.2.1) = 0 then g x.2.2.2.2 else cxC (x.2.2.1 ++ x.2.2.2.1)) else 2) else akC x.1 x.2.1
def hasH (l : List HeldD) (id : Int) : Bool := l.any fun h => h.1 == id
def holdN (l : List HeldD) (h : HeldD) : List HeldD := l.filter (fun a => decide (a.1 < h.1)) ++ h :: l.filter (fun a => decide (h.1 < a.1))
def askN (x : SesD) (c : List UInt8) : SesD := (x.1, x.2.1, x.2.2.1 ++ [c], x.2.2.2.1, x.2.2.2.2)
def wiN (l : List (List UInt8)) (c : List UInt8) : List (List UInt8) := l.filter fun d => !sameB d c
def ansN (x : SesD) (a : AuthD) : SesD := (x.1, x.2.1, wiN x.2.2.1 a.1, x.2.2.2.1 ++ [a.1], holdN x.2.2.2.2 (a.2.1.1, a.2.1.2.2))
def goN (l : List HeldD) (id : Int) : List HeldD := l.filter fun h => !(h.1 == id)
def revN (x : SesD) (id : Int) : SesD := (x.1, x.2.1, x.2.2.1, x.2.2.2.1, goN x.2.2.2.2 id)
def nowN (l : List HeldD) (now : Int) : List HeldD := l.filter fun h => decide (now ≤ h.2)
def timN (x : SesD) (now : Int) : SesD := (x.1, x.2.1, x.2.2.1, x.2.2.2.1, nowN x.2.2.2.2 now)
def acC (g : List HeldD → Int) (x : SesD) (c : List UInt8) : Int :=
  if seF g x = 0 then (if ctxB c then (if hsB x.2.2.1 c = true ∨ hsB x.2.2.2.1 c = true then 6 else (if 6 ≤ x.2.2.1.length ∨ 40 ≤ x.2.2.1.length + x.2.2.2.1.length then 10 else 0)) else 2) else seF g x
def hlC (x : SesD) (a : AuthD) : Int := if hsB x.2.2.1 a.1 = true then (if 40 ≤ x.2.2.2.1.length ∨ (6 ≤ x.2.2.2.2.length ∧ hasH x.2.2.2.2 a.2.1.1 = false) then 10 else 0) else 8
def haC (g : List HeldD → Int) (x : SesD) (certs : List CertD) (signs : List SignD) (now : Int) (data : List UInt8) : Int :=
  if seF g x = 0 then (if caC x.1 (3 - x.2.1) certs signs now data = 0 then hlC x ((raR data).getD zeroA) else caC x.1 (3 - x.2.1) certs signs now data) else seF g x
def rvC (g : List HeldD → Int) (x : SesD) (id : Int) : Int := if seF g x = 0 then (if hasH x.2.2.2.2 id then 0 else 4) else seF g x
def tmC (g : List HeldD → Int) (x : SesD) (now : Int) : Int := if seF g x = 0 then (if inB now 0 9999 then 0 else 3) else seF g x
def hnB (l : List HeldD) (id now : Int) : Bool := l.any fun h => h.1 == id && decide (now ≤ h.2)
def hoB (g : List HeldD → Int) (x : SesD) (id now : Int) : Bool := if seF g x = 0 then hnB x.2.2.2.2 id now else false
def tkC (g : List HeldD → Int) (x : SesD) (token : List UInt8) : Int := if seF g x = 0 then (if sameB token (biN x.1) then 0 else 7) else seF g x

theorem sameB_eq {a b : List UInt8} : sameB a b = true ↔ a = b := by simp [sameB]
theorem hsB_iff {l : List (List UInt8)} {c : List UInt8} : hsB l c = true ↔ c ∈ l := by
  simp only [hsB, List.any_eq_true, sameB_eq]
  exact ⟨fun ⟨x, h, e⟩ => e ▸ h, fun h => ⟨c, h, rfl⟩⟩
theorem hsB_no {l : List (List UInt8)} {c : List UInt8} : hsB l c = false ↔ c ∉ l := by
  rw [← hsB_iff]; simp
theorem hsB_take {l : List (List UInt8)} {k : Nat} {a c : List UInt8} (h : l[k]? = some a) : hsB (l.take (k + 1)) c = (hsB (l.take k) c || sameB a c) := by
  rw [List.take_add_one, h]; simp [hsB]
theorem cxG_iff : ∀ (t s : List (List UInt8)), s.Nodup → (cxG s t = 0 ↔ (∀ c ∈ t, ctxB c = true) ∧ (s ++ t).Nodup)
  | [], s, hs => by simp [cxG, hs]
  | c :: t, s, hs => by
    rw [cxG]
    cases hc : ctxB c
    · simp [hc]
    · cases hh : hsB s c
      · have hn := hsB_no.1 hh
        have hs2 : (s ++ [c]).Nodup := List.nodup_append.2 ⟨hs, by simp, fun x hx y hy e => by
          rw [List.mem_singleton] at hy; subst hy; subst e; exact hn hx⟩
        simp only [if_true, Bool.false_eq_true, if_false]
        rw [cxG_iff t (s ++ [c]) hs2, List.append_assoc]
        simp [hc]
      · have hm := hsB_iff.1 hh
        simp only [if_true]
        refine ⟨fun h => absurd h (by decide), fun ⟨_, h⟩ => ?_⟩
        exact absurd rfl ((List.nodup_append.1 h).2.2 c hm c (List.mem_cons_self ..))
theorem cxC_iff {l : List (List UInt8)} : cxC l = 0 ↔ (∀ c ∈ l, ctxB c = true) ∧ l.Nodup := by
  have h := cxG_iff l [] List.nodup_nil
  simpa [cxC] using h
theorem cxG_step {l : List (List UInt8)} {k : Nat} {a : List UInt8} (h : l[k]? = some a) (ho : ctxB a = true) (hn : hsB (l.take k) a = false) : cxG (l.take k) (l.drop k) = cxG (l.take (k + 1)) (l.drop (k + 1)) := by
  rw [drop_at h, cxG, if_pos ho, if_neg (by rw [hn]; simp), List.take_add_one, h]; rfl
theorem cxG_bad {l : List (List UInt8)} {k : Nat} {a : List UInt8} (h : l[k]? = some a) (ho : ctxB a = false) : cxG (l.take k) (l.drop k) = 2 := by
  rw [drop_at h, cxG, if_neg (by rw [ho]; simp)]
theorem cxG_taken {l : List (List UInt8)} {k : Nat} {a : List UInt8} (h : l[k]? = some a) (ho : ctxB a = true) (hn : hsB (l.take k) a = true) : cxG (l.take k) (l.drop k) = 6 := by
  rw [drop_at h, cxG, if_pos ho, if_pos hn]
theorem cxG_end (l : List (List UInt8)) : cxG (l.take l.length) (l.drop l.length) = 0 := by rw [List.drop_length]; rfl

theorem okH_parts {h : HeldD} (k : okH h = true) : 1 ≤ h.1 ∧ h.1 ≤ 99 ∧ 0 ≤ h.2 ∧ h.2 ≤ 9999 := by
  simp only [okH, inB, Bool.and_eq_true, decide_eq_true_eq] at k; omega
theorem okH_mk {h : HeldD} (h1 : 1 ≤ h.1) (h2 : h.1 ≤ 99) (h3 : 0 ≤ h.2) (h4 : h.2 ≤ 9999) : okH h = true := by
  simp only [okH, inB, Bool.and_eq_true, decide_eq_true_eq]; omega
theorem Rise.snoc {s : List HeldD} {h : HeldD} (hs : Rise s) : Rise (s ++ [h]) ↔ laB s h = true := by
  unfold laB
  rcases List.eq_nil_or_concat s with rfl | ⟨r, a, rfl⟩
  · simp [Rise]
  · rw [List.concat_eq_append] at hs ⊢
    rw [List.getLast?_append]
    simp only [List.getLast?_singleton, Option.some_or, decide_eq_true_eq]
    unfold Rise at hs ⊢
    rw [List.pairwise_append] at hs ⊢
    constructor
    · intro k
      exact k.2.2 a (by simp) h (by simp)
    · intro k
      refine ⟨List.pairwise_append.2 hs, by simp, fun x hx y hy => ?_⟩
      rw [List.mem_singleton] at hy
      subst hy
      rcases List.mem_append.1 hx with hx | hx
      · exact Int.lt_trans (hs.2.2 x hx a (by simp)) k
      · rw [List.mem_singleton] at hx; subst hx; exact k
theorem hdG_iff : ∀ (t s : List HeldD), Rise s → (hdG s t = 0 ↔ (∀ h ∈ t, okH h = true) ∧ Rise (s ++ t))
  | [], s, hs => by simp [hdG, hs]
  | h :: t, s, hs => by
    rw [hdG]
    cases hc : okH h
    · simp [hc]
    · cases hl : laB s h
      · simp only [if_true, Bool.false_eq_true, if_false]
        refine ⟨fun k => absurd k (by decide), fun ⟨_, k⟩ => ?_⟩
        rw [show s ++ h :: t = (s ++ [h]) ++ t by simp] at k
        have := hs.snoc.1 (List.pairwise_append.1 k).1
        rw [hl] at this
        cases this
      · simp only [if_true]
        rw [hdG_iff t (s ++ [h]) (hs.snoc.2 hl)]
        simp [hc]
theorem hdS_iff {l : List HeldD} : hdS l = 0 ↔ (∀ h ∈ l, okH h = true) ∧ Rise l := by
  have h := hdG_iff l [] List.Pairwise.nil
  simpa [hdS] using h
theorem hdC_iff {l : List HeldD} : hdC l = 0 ↔ (∀ h ∈ l, okH h = true) ∧ Rise l := by
  unfold hdC
  cases hc : l.all okH
  · simp only [Bool.false_eq_true, if_false]
    refine ⟨fun k => absurd k (by decide), fun ⟨k, _⟩ => ?_⟩
    rw [List.all_eq_true.2 k] at hc
    cases hc
  · simp only [if_true]
    by_cases hr : Rise l
    · rw [if_pos hr]; exact ⟨fun _ => ⟨List.all_eq_true.1 hc, hr⟩, fun _ => rfl⟩
    · rw [if_neg hr]; exact ⟨fun k => absurd k (by decide), fun k => absurd k.2 hr⟩
theorem hd_same {l : List HeldD} : hdC l = 0 ↔ hdS l = 0 := hdC_iff.trans hdS_iff.symm
theorem hdG_last : ∀ (r s : List HeldD) (h : HeldD), Rise (s ++ r) → (∀ a ∈ r, okH a = true) → hdG s (r ++ [h]) = if okH h then (if laB (s ++ r) h then 0 else 1) else 3
  | [], s, h, _, _ => by simp [hdG]
  | a :: r, s, h, hr, ho => by
    rw [List.cons_append, hdG, if_pos (ho a (List.mem_cons_self ..))]
    rw [show s ++ a :: r = (s ++ [a]) ++ r by simp] at hr ⊢
    have hs : Rise s := by
      have := (List.pairwise_append.1 hr).1
      exact (List.pairwise_append.1 this).1
    rw [if_pos (hs.snoc.1 (List.pairwise_append.1 hr).1)]
    exact hdG_last r (s ++ [a]) h hr (fun b hb => ho b (List.mem_cons_of_mem _ hb))
/-- The two ways agree where all but the last one are right. -/
theorem hd_agree {r : List HeldD} {h : HeldD} (hr : Rise r) (ho : ∀ a ∈ r, okH a = true) : hdC (r ++ [h]) = hdS (r ++ [h]) := by
  unfold hdS
  rw [hdG_last r [] h (by simpa using hr) ho, List.nil_append]
  unfold hdC
  have ha : (r ++ [h]).all okH = okH h := by
    rw [List.all_append, List.all_eq_true.2 ho]; simp
  rw [ha]
  cases okH h
  · rfl
  · simp only [if_true]
    cases hl : laB r h
    · rw [if_neg (fun k => by have := hr.snoc.1 k; rw [hl] at this; cases this)]; rfl
    · rw [if_pos (hr.snoc.2 hl)]; rfl
theorem hd_agree0 {r : List HeldD} (hr : Rise r) (ho : ∀ a ∈ r, okH a = true) : hdC r = hdS r := (hdC_iff.2 ⟨ho, hr⟩).trans (hdS_iff.2 ⟨ho, hr⟩).symm
theorem hdG_step {l : List HeldD} {k : Nat} {a : HeldD} (h : l[k]? = some a) (ho : okH a = true) (hn : laB (l.take k) a = true) : hdG (l.take k) (l.drop k) = hdG (l.take (k + 1)) (l.drop (k + 1)) := by
  rw [drop_at h, hdG, if_pos ho, if_pos hn, List.take_add_one, h]; rfl
theorem hdG_bad {l : List HeldD} {k : Nat} {a : HeldD} (h : l[k]? = some a) (ho : okH a = false) : hdG (l.take k) (l.drop k) = 3 := by
  rw [drop_at h, hdG, if_neg (by rw [ho]; simp)]
theorem hdG_low {l : List HeldD} {k : Nat} {a : HeldD} (h : l[k]? = some a) (ho : okH a = true) (hn : laB (l.take k) a = false) : hdG (l.take k) (l.drop k) = 1 := by
  rw [drop_at h, hdG, if_pos ho, if_neg (by rw [hn]; simp)]
theorem hdG_end (l : List HeldD) : hdG (l.take l.length) (l.drop l.length) = 0 := by rw [List.drop_length]; rfl
theorem laB_zero (l : List HeldD) (a : HeldD) : laB (l.take 0) a = true := by simp [laB]
theorem laB_at {l : List HeldD} {k : Nat} {a b : HeldD} (h : l[k]? = some b) : laB (l.take (k + 1)) a = decide (b.1 < a.1) := by
  rw [List.take_add_one, h]; simp [laB]

theorem lnB_iff {x : SesD} : lnB x = true ↔ x.2.2.1.length ≤ 6 ∧ x.2.2.2.1.length ≤ 40 ∧ x.2.2.2.2.length ≤ 6 := by simp [lnB]
/-- A session: what it is that it has no fault. -/
structure Ses (x : SesD) : Prop where
  ak : akC x.1 x.2.1 = 0
  ln : x.2.2.1.length ≤ 6 ∧ x.2.2.2.1.length ≤ 40 ∧ x.2.2.2.2.length ≤ 6
  cx : ∀ c ∈ x.2.2.1 ++ x.2.2.2.1, ctxB c = true
  nd : (x.2.2.1 ++ x.2.2.2.1).Nodup
  ok : ∀ h ∈ x.2.2.2.2, okH h = true
  rs : Rise x.2.2.2.2
theorem seF_iff {g : List HeldD → Int} (hg : ∀ l, g l = 0 ↔ (∀ h ∈ l, okH h = true) ∧ Rise l) {x : SesD} : seF g x = 0 ↔ Ses x := by
  unfold seF
  by_cases h1 : akC x.1 x.2.1 = 0
  · rw [if_pos h1]
    cases h2 : lnB x
    · simp only [Bool.false_eq_true, if_false]
      exact ⟨fun k => absurd k (by decide), fun k => by rw [lnB_iff.2 k.ln] at h2; cases h2⟩
    · simp only [if_true]
      by_cases h3 : cxC (x.2.2.1 ++ x.2.2.2.1) = 0
      · rw [if_pos h3, hg]
        exact ⟨fun k => ⟨h1, lnB_iff.1 h2, (cxC_iff.1 h3).1, (cxC_iff.1 h3).2, k.1, k.2⟩, fun k => ⟨k.ok, k.rs⟩⟩
      · rw [if_neg h3]
        exact ⟨fun k => absurd k h3, fun k => absurd (cxC_iff.2 ⟨k.cx, k.nd⟩) h3⟩
  · rw [if_neg h1]
    exact ⟨fun k => absurd k h1, fun k => absurd k.ak h1⟩
theorem seC_iff {x : SesD} : seF hdC x = 0 ↔ Ses x := seF_iff fun _ => hdC_iff
theorem seS_iff {x : SesD} : seF hdS x = 0 ↔ Ses x := seF_iff fun _ => hdS_iff
theorem se_same {x : SesD} : seF hdC x = 0 ↔ seF hdS x = 0 := seC_iff.trans seS_iff.symm
theorem se_agree {x : SesD} (h : hdC x.2.2.2.2 = hdS x.2.2.2.2) : seF hdC x = seF hdS x := by unfold seF; rw [h]
theorem Ses.role {x : SesD} (h : Ses x) : x.2.1 = 1 ∨ x.2.1 = 2 := by
  have := h.ak
  unfold akC at this
  cases h1 : is32 x.1
  · rw [h1] at this; cases this
  · rw [h1, if_pos rfl] at this
    cases h2 : roleB x.2.1
    · rw [h2] at this; cases this
    · simpa [roleB] using h2
theorem Ses.len {x : SesD} (h : Ses x) : x.1.length = 32 := by
  have := h.ak
  unfold akC at this
  cases h1 : is32 x.1
  · rw [h1] at this; cases this
  · simpa [is32] using h1

theorem wi_mem {l : List (List UInt8)} {c d : List UInt8} : d ∈ wiN l c ↔ d ∈ l ∧ d ≠ c := by
  simp [wiN, List.mem_filter, sameB]
theorem wi_len : ∀ {l : List (List UInt8)} {c : List UInt8}, l.Nodup → c ∈ l → (wiN l c).length + 1 = l.length
  | [], _, _, h => by cases h
  | d :: l, c, hn, h => by
    have hn2 := List.nodup_cons.1 hn
    by_cases e : d = c
    · subst e
      have : wiN (d :: l) d = l := by
        show (d :: l).filter _ = l
        rw [List.filter_cons_of_neg (by simp [sameB])]
        exact List.filter_eq_self.2 fun x hx => by simp [sameB]; exact fun k => hn2.1 (k ▸ hx)
      rw [this]; rfl
    · have hm : c ∈ l := by
        rcases List.mem_cons.1 h with k | k
        · exact absurd k.symm e
        · exact k
      have : wiN (d :: l) c = d :: wiN l c := by
        show (d :: l).filter _ = _
        rw [List.filter_cons_of_pos (by simp [sameB, e])]; rfl
      rw [this, List.length_cons, wi_len hn2.2 hm]; rfl
theorem go_len : ∀ {l : List HeldD} {id : Int}, Rise l → hasH l id = true → (goN l id).length + 1 = l.length
  | [], _, _, h => by cases h
  | d :: l, id, hn, h => by
    have hn2 := List.pairwise_cons.1 hn
    by_cases e : d.1 = id
    · have : goN (d :: l) id = l := by
        show (d :: l).filter _ = l
        rw [List.filter_cons_of_neg (by simp [e])]
        refine List.filter_eq_self.2 fun x hx => ?_
        have := hn2.1 x hx
        have hne : ¬ x.1 = id := by omega
        simp [hne]
      rw [this]; rfl
    · have hm : hasH l id = true := by
        have e2 : (d.1 == id) = false := by simp [e]
        simpa [hasH, e2] using h
      have : goN (d :: l) id = d :: goN l id := by
        show (d :: l).filter _ = _
        rw [List.filter_cons_of_pos (by simp [e])]; rfl
      rw [this, List.length_cons, go_len hn2.2 hm]; rfl
theorem hasH_iff {l : List HeldD} {id : Int} : hasH l id = true ↔ ∃ h ∈ l, h.1 = id := by simp [hasH]
theorem has_go {l : List HeldD} {id : Int} : hasH (goN l id) id = false := by
  cases h : hasH (goN l id) id
  · rfl
  · obtain ⟨a, ha, e⟩ := hasH_iff.1 h
    have := (List.mem_filter.1 ha).2
    simp [e] at this
theorem hn_go {l : List HeldD} {id j now : Int} : hnB (goN l id) j now = (!(j == id) && hnB l j now) := by
  unfold hnB goN
  rw [List.any_filter]
  induction l with
  | nil => simp
  | cons a l ih =>
    simp only [List.any_cons, ih]
    by_cases e : a.1 = j
    · subst e
      cases (a.1 == id) <;> simp
    · have e2 : (a.1 == j) = false := by simp [e]
      rw [e2]; simp
theorem hn_now {l : List HeldD} {j now : Int} : hnB (nowN l now) j now = hnB l j now := by
  unfold hnB nowN
  rw [List.any_filter]
  induction l with
  | nil => simp
  | cons a l ih =>
    simp only [List.any_cons, ih]
    cases decide (now ≤ a.2) <;> simp
theorem hold_mem {l : List HeldD} {h a : HeldD} : a ∈ holdN l h ↔ a = h ∨ (a ∈ l ∧ a.1 ≠ h.1) := by
  simp only [holdN, List.mem_append, List.mem_filter, List.mem_cons, decide_eq_true_eq]
  constructor
  · rintro (⟨h1, h2⟩ | rfl | ⟨h1, h2⟩)
    · exact .inr ⟨h1, by omega⟩
    · exact .inl rfl
    · exact .inr ⟨h1, by omega⟩
  · rintro (rfl | ⟨h1, h2⟩)
    · exact .inr (.inl rfl)
    · rcases Int.lt_or_gt_of_ne h2 with h3 | h3
      · exact .inl ⟨h1, h3⟩
      · exact .inr (.inr ⟨h1, h3⟩)
theorem hold_rise {l : List HeldD} {h : HeldD} (hl : Rise l) : Rise (holdN l h) := by
  unfold Rise holdN
  refine List.pairwise_append.2 ⟨List.Pairwise.filter _ hl, List.pairwise_cons.2 ⟨fun a ha => by simpa using (List.mem_filter.1 ha).2, List.Pairwise.filter _ hl⟩, fun a ha b hb => ?_⟩
  have h1 : a.1 < h.1 := by simpa using (List.mem_filter.1 ha).2
  rcases List.mem_cons.1 hb with rfl | hb
  · exact h1
  · have h2 : h.1 < b.1 := by simpa using (List.mem_filter.1 hb).2
    exact Int.lt_trans h1 h2
theorem hold_len : ∀ {l : List HeldD} {h : HeldD}, Rise l → (holdN l h).length = if hasH l h.1 then l.length else l.length + 1
  | [], h, _ => by simp [holdN, hasH]
  | a :: l, h, hn => by
    have hn2 := List.pairwise_cons.1 hn
    have ih := hold_len (h := h) hn2.2
    unfold holdN at ih ⊢
    simp only [List.length_append, List.length_cons] at ih ⊢
    rcases Int.lt_trichotomy a.1 h.1 with h1 | h1 | h1
    · have e : (a.1 == h.1) = false := by have : ¬ a.1 = h.1 := by omega
                                          simp [this]
      rw [List.filter_cons_of_pos (by simpa using h1), List.filter_cons_of_neg (by simp; omega)]
      have e3 : hasH (a :: l) h.1 = hasH l h.1 := by unfold hasH; rw [List.any_cons, e, Bool.false_or]
      rw [e3, List.length_cons]
      split at ih <;> simp_all <;> omega
    · have e : (a.1 == h.1) = true := by simp [h1]
      rw [List.filter_cons_of_neg (by simp; omega), List.filter_cons_of_neg (by simp; omega)]
      have e3 : hasH (a :: l) h.1 = true := by unfold hasH; rw [List.any_cons, e, Bool.true_or]
      have e4 : l.filter (fun b => decide (b.1 < h.1)) = [] := List.filter_eq_nil_iff.2 fun b hb => by have := hn2.1 b hb; simp; omega
      have e5 : l.filter (fun b => decide (h.1 < b.1)) = l := List.filter_eq_self.2 fun b hb => by have := hn2.1 b hb; simp; omega
      rw [e3, e4, e5, if_pos rfl, List.length_nil]; omega
    · rw [List.filter_cons_of_neg (by simp; omega), List.filter_cons_of_pos (by simpa using h1)]
      have e : (a.1 == h.1) = false := by have : ¬ a.1 = h.1 := by omega
                                          simp [this]
      have e3 : hasH (a :: l) h.1 = hasH l h.1 := by unfold hasH; rw [List.any_cons, e, Bool.false_or]
      rw [e3, List.length_cons]
      split at ih <;> simp_all <;> omega

theorem Ses.ask {x : SesD} {c : List UInt8} (h : Ses x) (hc : ctxB c = true) (h1 : hsB x.2.2.1 c = false) (h2 : hsB x.2.2.2.1 c = false) (h3 : x.2.2.1.length < 6) : Ses (askN x c) := by
  refine ⟨h.ak, ⟨by show (x.2.2.1 ++ [c]).length ≤ 6; simp; omega, h.ln.2⟩, fun d hd => ?_, ?_, h.ok, h.rs⟩
  · have hd : d ∈ (x.2.2.1 ++ [c]) ++ x.2.2.2.1 := hd
    simp only [List.mem_append, List.mem_singleton] at hd
    rcases hd with (hd | rfl) | hd
    · exact h.cx d (List.mem_append_left _ hd)
    · exact hc
    · exact h.cx d (List.mem_append_right _ hd)
  · show ((x.2.2.1 ++ [c]) ++ x.2.2.2.1).Nodup
    have hn := List.nodup_append.1 h.nd
    have n1 := hsB_no.1 h1
    have n2 := hsB_no.1 h2
    refine List.nodup_append.2 ⟨List.nodup_append.2 ⟨hn.1, by simp, fun a ha b hb e => ?_⟩, hn.2.1, fun a ha b hb e => ?_⟩
    · rw [List.mem_singleton] at hb; subst hb; subst e; exact n1 ha
    · subst e
      rcases List.mem_append.1 ha with ha | ha
      · exact hn.2.2 a ha a hb rfl
      · rw [List.mem_singleton] at ha; subst ha; exact n2 hb
theorem Ses.ans {x : SesD} {a : AuthD} (h : Ses x) (h1 : hlC x a = 0) (hc : okC a.2.1 = true) : Ses (ansN x a) := by
  unfold hlC at h1
  have hm : a.1 ∈ x.2.2.1 := by
    cases hh : hsB x.2.2.1 a.1
    · rw [hh] at h1; cases h1
    · exact hsB_iff.1 hh
  rw [if_pos (hsB_iff.2 hm)] at h1
  have h2 : ¬ (40 ≤ x.2.2.2.1.length ∨ (6 ≤ x.2.2.2.2.length ∧ hasH x.2.2.2.2 a.2.1.1 = false)) := fun k => by rw [if_pos k] at h1; cases h1
  obtain ⟨h3, h4⟩ := not_or.1 h2
  have hn := List.nodup_append.1 h.nd
  have hp := okC_parts hc
  have hcx := h.cx a.1 (List.mem_append_left _ hm)
  refine ⟨h.ak, ⟨?_, ?_, ?_⟩, fun d hd => ?_, ?_, fun b hb => ?_, hold_rise h.rs⟩
  · show (wiN x.2.2.1 a.1).length ≤ 6
    have := h.ln.1
    have := wi_len hn.1 hm
    omega
  · show (x.2.2.2.1 ++ [a.1]).length ≤ 40
    simp; omega
  · show (holdN x.2.2.2.2 (a.2.1.1, a.2.1.2.2)).length ≤ 6
    rw [hold_len h.rs]
    have := h.ln.2.2
    split
    · exact this
    · rename_i hh
      have : ¬ 6 ≤ x.2.2.2.2.length := fun k => h4 ⟨k, by simpa using hh⟩
      omega
  · have hd : d ∈ wiN x.2.2.1 a.1 ++ (x.2.2.2.1 ++ [a.1]) := hd
    simp only [List.mem_append, List.mem_singleton, wi_mem] at hd
    rcases hd with hd | hd | rfl
    · exact h.cx d (List.mem_append_left _ hd.1)
    · exact h.cx d (List.mem_append_right _ hd)
    · exact hcx
  · show (wiN x.2.2.1 a.1 ++ (x.2.2.2.1 ++ [a.1])).Nodup
    refine List.nodup_append.2 ⟨List.Pairwise.filter _ hn.1, List.nodup_append.2 ⟨hn.2.1, by simp, fun b hb d hd e => ?_⟩, fun b hb d hd e => ?_⟩
    · rw [List.mem_singleton] at hd
      exact hn.2.2 a.1 hm b hb (by rw [e, hd])
    · have hb2 := wi_mem.1 hb
      rcases List.mem_append.1 hd with hd | hd
      · exact hn.2.2 b hb2.1 d hd e
      · rw [List.mem_singleton] at hd; exact hb2.2 (by rw [e, hd])
  · have hb : b ∈ holdN x.2.2.2.2 (a.2.1.1, a.2.1.2.2) := hb
    rcases hold_mem.1 hb with rfl | ⟨hb, -⟩
    · exact okH_mk hp.1 hp.2.1 hp.2.2.2.2.1 hp.2.2.2.2.2
    · exact h.ok b hb
theorem Ses.sub {x : SesD} {l : List HeldD} (h : Ses x) (hl : l.Sublist x.2.2.2.2) : Ses (x.1, x.2.1, x.2.2.1, x.2.2.2.1, l) :=
  ⟨h.ak, ⟨h.ln.1, h.ln.2.1, Nat.le_trans hl.length_le h.ln.2.2⟩, h.cx, h.nd, fun a ha => h.ok a (hl.subset ha), List.Pairwise.sublist hl h.rs⟩
theorem Ses.rev {x : SesD} (h : Ses x) (id : Int) : Ses (revN x id) := h.sub List.filter_sublist
theorem Ses.tim {x : SesD} (h : Ses x) (now : Int) : Ses (timN x now) := h.sub List.filter_sublist
end Go.Proofs.YthiabbgkfmopiaaGreat

