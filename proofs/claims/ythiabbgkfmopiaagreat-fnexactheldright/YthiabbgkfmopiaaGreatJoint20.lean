/- What is held as a function from certificates to times: of one that is in the list, of a list into which one is put. -/
import Derived.Test.YthiabbgkfmopiaaGreatSes
import Derived.Test.YthiabbgkfmopiaaGreatSesM
import Derived.Test.YthiabbgkfmopiaaGreatJoint15
namespace Go.Proofs.YthiabbgkfmopiaaGreat

theorem lkH_some {l : List HeldD} (hr : Rise l) {k u : Int} : lkH l k = some u ↔ (k, u) ∈ l := by
  induction l with
  | nil => simp [lkH]
  | cons a l ih =>
    have hr2 := List.pairwise_cons.1 hr
    unfold lkH at ih ⊢
    by_cases e : a.1 = k
    · rw [List.find?_cons_of_pos (by simp [e])]
      simp only [Option.map_some, Option.some.injEq]
      constructor
      · intro h; subst e; subst h; exact List.mem_cons_self ..
      · intro h
        rcases List.mem_cons.1 h with h | h
        · rw [← h]
        · have := hr2.1 _ h; simp only at this; omega
    · rw [List.find?_cons_of_neg (by simp [e]), ih hr2.2]
      constructor
      · intro h; exact List.mem_cons_of_mem _ h
      · intro h
        rcases List.mem_cons.1 h with h | h
        · exact absurd (by rw [← h]) e
        · exact h
theorem lkH_hold {l : List HeldD} {h : HeldD} (hr : Rise l) : lkH (holdN l h) = fun j => if j = h.1 then some h.2 else lkH l j := by
  funext j
  have hr2 := hold_rise (h := h) hr
  by_cases e : j = h.1
  · rw [if_pos e, e]
    exact (lkH_some hr2).2 (hold_mem.2 (.inl rfl))
  · rw [if_neg e]
    cases hx : lkH l j with
    | some u =>
      exact (lkH_some hr2).2 (hold_mem.2 (.inr ⟨(lkH_some hr).1 hx, e⟩))
    | none =>
      cases hy : lkH (holdN l h) j with
      | none => rfl
      | some u =>
        rcases hold_mem.1 ((lkH_some hr2).1 hy) with h1 | h1
        · exact absurd (by rw [← h1]) e
        · have := (lkH_some hr).2 h1.1; rw [hx] at this; cases this
theorem okC_H {c : CertD} (h : okC c = true) : okH (c.1, c.2.2) = true := by
  simp only [okC, okH, Bool.and_eq_true] at h ⊢
  exact ⟨h.1.1, h.2⟩
end Go.Proofs.YthiabbgkfmopiaaGreat

/- Chapter 15: what a session holds by the events: in the specification a list that rises (lefL, lefN), in the program a function (lefF); where the certificates are without a fault both say the same. -/
namespace Go.Proofs.YthiabbgkfmopiaaGreat

/-- One event, in the specification's list. -/
def lefE (cs : List CertD) (link role : Int) (out : List HeldD) (e : EventD) : List HeldD :=
  if e.2.1 = link ∧ e.2.2.1 = 3 - role then
    (if e.1 = 2 then (if hasC cs e.2.2.2.2.1 = true then holdN out (e.2.2.2.2.1, (foC cs e.2.2.2.2.1).2.2) else out)
     else (if e.1 = 3 then goN out e.2.2.2.2.1 else out)) else out
def lefL (cs : List CertD) (link role : Int) (ev : List EventD) : List HeldD := ev.foldl (lefE cs link role) []
def lefN (x : WorldD) (link role : Int) : List HeldD := nowN (lefL x.2.1 link role x.2.2.2.2.2.2) x.1
/-- One event, in the program's map. -/
def lefM (cs : List CertD) (now link role : Int) (f : Int → Option Int) (e : EventD) : Int → Option Int :=
  if e.2.1 = link ∧ e.2.2.1 = 3 - role then
    (if e.1 = 2 then (if foC cs e.2.2.2.2.1 ≠ zC ∧ now ≤ (foC cs e.2.2.2.2.1).2.2 then (fun j => if j = (foC cs e.2.2.2.2.1).1 then some (foC cs e.2.2.2.2.1).2.2 else f j) else f)
     else (if e.1 = 3 then (fun j => if j = e.2.2.2.2.1 then none else f j) else f)) else f
def lefF (cs : List CertD) (now link role : Int) (ev : List EventD) : Int → Option Int := ev.foldl (lefM cs now link role) (fun _ => none)
theorem rise_filter {l : List HeldD} (h : Rise l) (p : HeldD → Bool) : Rise (l.filter p) := List.Pairwise.filter p h
theorem now_rise {l : List HeldD} (h : Rise l) (now : Int) : Rise (nowN l now) := rise_filter h _
theorem go_rise {l : List HeldD} (h : Rise l) (id : Int) : Rise (goN l id) := rise_filter h _
theorem foC_idk {cs : List CertD} (hc : ctC cs = 0) {id : Int} (h : hasC cs id = true) : (foC cs id).1 = id ∧ okC (foC cs id) = true ∧ foC cs id ≠ zC := by
  obtain ⟨k, hk, e⟩ := foC_mem h
  have ho := ctC_all hc _ (List.mem_of_getElem? hk)
  refine ⟨e, ho, fun hz => ?_⟩
  rw [hz] at ho
  exact absurd ho (by decide)
theorem now_mem {l : List HeldD} {now : Int} {a : HeldD} : a ∈ nowN l now ↔ a ∈ l ∧ now ≤ a.2 := by
  simp only [nowN, List.mem_filter, decide_eq_true_eq]
theorem go_mem {l : List HeldD} {id : Int} {a : HeldD} : a ∈ goN l id ↔ a ∈ l ∧ a.1 ≠ id := by
  simp only [goN, List.mem_filter, Bool.not_eq_true', beq_eq_false_iff_ne]
/-- What holds of both, event by event. -/
structure Lef (cs : List CertD) (now : Int) (out : List HeldD) (f : Int → Option Int) : Prop where
  rs : Rise out
  mem : ∀ h ∈ out, hasC cs h.1 = true ∧ h.2 = (foC cs h.1).2.2
  same : f = lkH (nowN out now)
theorem lkH_eq {l : List HeldD} (hr : Rise l) {f : Int → Option Int} (h : ∀ j u, f j = some u ↔ (j, u) ∈ l) : f = lkH l := by
  funext j
  refine Option.ext fun u => ?_
  rw [h, lkH_some hr]
theorem Lef.step {cs : List CertD} (hc : ctC cs = 0) {now link role : Int} {out : List HeldD} {f : Int → Option Int} (h : Lef cs now out f) (e : EventD) : Lef cs now (lefE cs link role out e) (lefM cs now link role f e) := by
  unfold lefE lefM
  by_cases h1 : e.2.1 = link ∧ e.2.2.1 = 3 - role
  · rw [if_pos h1, if_pos h1]
    by_cases h2 : e.1 = 2
    · rw [if_pos h2, if_pos h2]
      by_cases h3 : hasC cs e.2.2.2.2.1 = true
      · rw [if_pos h3]
        obtain ⟨k1, k2, k3⟩ := foC_idk hc h3
        have hr := hold_rise (h := (e.2.2.2.2.1, (foC cs e.2.2.2.2.1).2.2)) h.rs
        refine ⟨hr, fun y hy => ?_, ?_⟩
        · rcases hold_mem.1 hy with rfl | ⟨hy, -⟩
          · exact ⟨h3, rfl⟩
          · exact h.mem y hy
        · refine lkH_eq (now_rise hr _) fun j u => ?_
          rw [now_mem, hold_mem]
          by_cases h4 : now ≤ (foC cs e.2.2.2.2.1).2.2
          · rw [if_pos ⟨k3, h4⟩, k1]
            by_cases hj : j = e.2.2.2.2.1
            · rw [if_pos hj, Option.some.injEq, Prod.mk.injEq]
              constructor
              · intro hu; exact ⟨.inl ⟨hj, hu.symm⟩, hu ▸ h4⟩
              · rintro ⟨⟨-, hu⟩ | ⟨-, hn⟩, -⟩
                · exact hu.symm
                · exact absurd hj hn
            · rw [if_neg hj, h.same, lkH_some (now_rise h.rs _), now_mem, Prod.mk.injEq]
              constructor
              · rintro ⟨a, b⟩; exact ⟨.inr ⟨a, hj⟩, b⟩
              · rintro ⟨⟨hj2, -⟩ | ⟨a, -⟩, b⟩
                · exact absurd hj2 hj
                · exact ⟨a, b⟩
          · rw [if_neg (fun x => h4 x.2), h.same, lkH_some (now_rise h.rs _), now_mem, Prod.mk.injEq]
            constructor
            · rintro ⟨a, b⟩
              refine ⟨.inr ⟨a, fun hj => ?_⟩, b⟩
              have hm := (h.mem _ a).2
              simp only at hm hj b
              rw [hj] at hm
              omega
            · rintro ⟨⟨-, hu⟩ | ⟨a, -⟩, b⟩
              · simp only at b
                omega
              · exact ⟨a, b⟩
      · rw [if_neg h3, if_neg (fun x => x.1 (foC_none (by simpa using h3)))]
        exact h
    · rw [if_neg h2, if_neg h2]
      by_cases h3 : e.1 = 3
      · rw [if_pos h3, if_pos h3]
        have hr := go_rise h.rs e.2.2.2.2.1
        refine ⟨hr, fun y hy => h.mem y (go_mem.1 hy).1, lkH_eq (now_rise hr _) fun j u => ?_⟩
        rw [now_mem, go_mem]
        by_cases hj : j = e.2.2.2.2.1
        · rw [if_pos hj]
          constructor
          · intro hu; cases hu
          · rintro ⟨⟨-, hn⟩, -⟩; exact absurd hj hn
        · rw [if_neg hj, h.same, lkH_some (now_rise h.rs _), now_mem]
          constructor
          · rintro ⟨a, b⟩; exact ⟨⟨a, hj⟩, b⟩
          · rintro ⟨⟨a, -⟩, b⟩; exact ⟨a, b⟩
      · rw [if_neg h3, if_neg h3]; exact h
  · rw [if_neg h1, if_neg h1]; exact h
theorem Lef.all {cs : List CertD} (hc : ctC cs = 0) {now link role : Int} : ∀ (ev : List EventD) {out : List HeldD} {f : Int → Option Int}, Lef cs now out f → Lef cs now (ev.foldl (lefE cs link role) out) (ev.foldl (lefM cs now link role) f)
  | [], _, _, h => h
  | e :: ev, _, _, h => Lef.all hc ev (h.step hc e)
theorem lef_same {cs : List CertD} (hc : ctC cs = 0) (now link role : Int) (ev : List EventD) : Lef cs now (lefL cs link role ev) (lefF cs now link role ev) :=
  Lef.all hc ev ⟨List.Pairwise.nil, fun _ h => (by cases h), rfl⟩
theorem lefN_same {x : WorldD} (hc : ctC x.2.1 = 0) (link role : Int) : lefF x.2.1 x.1 link role x.2.2.2.2.2.2 = lkH (lefN x link role) := (lef_same hc x.1 link role _).same
theorem lefN_rise {x : WorldD} (hc : ctC x.2.1 = 0) (link role : Int) : Rise (lefN x link role) := rise_filter (lef_same hc x.1 link role x.2.2.2.2.2.2).rs _
theorem lefL_ok {cs : List CertD} (hc : ctC cs = 0) (link role : Int) (ev : List EventD) : ∀ h ∈ lefL cs link role ev, okH h = true := fun h hh => by
  obtain ⟨h1, h2⟩ := (lef_same hc 0 link role ev).mem h hh
  obtain ⟨k1, k2, -⟩ := foC_idk hc h1
  have := okC_H k2
  rw [k1, ← h2] at this
  exact this
theorem lefN_ok {x : WorldD} (hc : ctC x.2.1 = 0) (link role : Int) : ∀ h ∈ lefN x link role, okH h = true := fun h hh => lefL_ok hc link role _ h (now_mem.1 hh).1
theorem lefE_len {cs : List CertD} {link role : Int} {out : List HeldD} {e : EventD} (h : Rise out) : (lefE cs link role out e).length ≤ out.length + 1 := by
  unfold lefE
  split
  · split
    · split
      · rw [hold_len h]; split <;> omega
      · omega
    · split
      · exact Nat.le_trans (List.length_filter_le _ _) (Nat.le_succ _)
      · omega
  · omega
theorem lefL_snoc (cs : List CertD) (link role : Int) (ev : List EventD) (e : EventD) : lefL cs link role (ev ++ [e]) = lefE cs link role (lefL cs link role ev) e := by
  unfold lefL; rw [List.foldl_append]; rfl
theorem lefF_snoc (cs : List CertD) (now link role : Int) (ev : List EventD) (e : EventD) : lefF cs now link role (ev ++ [e]) = lefM cs now link role (lefF cs now link role ev) e := by
  unfold lefF; rw [List.foldl_append]; rfl
theorem lefL_take (cs : List CertD) (link role : Int) {ev : List EventD} {k : Nat} {e : EventD} (h : ev[k]? = some e) : lefL cs link role (ev.take (k + 1)) = lefE cs link role (lefL cs link role (ev.take k)) e := by
  rw [List.take_add_one, h]; exact lefL_snoc cs link role _ e
theorem lefF_take (cs : List CertD) (now link role : Int) {ev : List EventD} {k : Nat} {e : EventD} (h : ev[k]? = some e) : lefF cs now link role (ev.take (k + 1)) = lefM cs now link role (lefF cs now link role (ev.take k)) e := by
  rw [List.take_add_one, h]; exact lefF_snoc cs now link role _ e
theorem lefL_len {cs : List CertD} (hc : ctC cs = 0) (link role : Int) (ev : List EventD) : ∀ k, k ≤ ev.length → (lefL cs link role (ev.take k)).length ≤ k
  | 0, _ => by rw [List.take_zero]; exact Nat.le_refl _
  | k + 1, hk => by
    have h : ev[k]? = some ev[k] := List.getElem?_eq_getElem (by omega)
    rw [lefL_take cs link role h]
    have h1 := lefL_len hc link role ev k (by omega)
    have h2 := lefE_len (cs := cs) (link := link) (role := role) (e := ev[k]) (lef_same hc 0 link role (ev.take k)).rs
    omega
theorem lefN_len {x : WorldD} (hc : ctC x.2.1 = 0) (link role : Int) : (lefN x link role).length ≤ x.2.2.2.2.2.2.length := by
  have h := lefL_len hc link role x.2.2.2.2.2.2 _ (Nat.le_refl _)
  rw [List.take_length] at h
  exact Nat.le_trans (List.length_filter_le _ _) h
/-- What the links hold is what the events leave them. -/
def hldB (x : WorldD) : Bool := (List.range x.2.2.2.2.1.length).all fun i => match x.2.2.2.2.1[i]? with
  | none => true
  | some a => decide (a.2.2.1.2.2.2.2 = lefN x i 1) && decide (a.2.2.2.2.2.2.2 = lefN x i 2)
theorem hldB_true {x : WorldD} (h : ∀ (j : Nat) a, j < x.2.2.2.2.1.length → x.2.2.2.2.1[j]? = some a → a.2.2.1.2.2.2.2 = lefN x j 1 ∧ a.2.2.2.2.2.2.2 = lefN x j 2) : hldB x = true := by
  unfold hldB
  refine List.all_eq_true.2 fun j hj => ?_
  have hj2 := List.mem_range.1 hj
  obtain ⟨a, ha⟩ : ∃ a, x.2.2.2.2.1[j]? = some a := ⟨x.2.2.2.2.1[j], by simp [hj2]⟩
  obtain ⟨h1, h2⟩ := h j a hj2 ha
  rw [ha]
  simp only [decide_eq_true h1, decide_eq_true h2, Bool.and_self]
theorem hldB_false {x : WorldD} {j : Nat} {a : LinkD} (ha : x.2.2.2.2.1[j]? = some a) (h : ¬ (a.2.2.1.2.2.2.2 = lefN x j 1 ∧ a.2.2.2.2.2.2.2 = lefN x j 2)) : hldB x = false := by
  cases hh : hldB x with
  | false => rfl
  | true =>
    unfold hldB at hh
    have h1 := List.all_eq_true.1 hh j (List.mem_range.2 (List.getElem?_eq_some_iff.1 ha).1)
    rw [ha] at h1
    simp only [Bool.and_eq_true, decide_eq_true_eq] at h1
    exact absurd h1 h
/-- What HeldRight answers. -/
def hrB (x : WorldD) : Bool := decide (wfF hdC x = 0) && hldB x
theorem hrB_bad {x : WorldD} (h : wfF hdC x ≠ 0) : hrB x = false := by unfold hrB; rw [decide_eq_false h]; rfl
theorem hrB_ok {x : WorldD} (h : wfF hdC x = 0) : hrB x = hldB x := by unfold hrB; rw [decide_eq_true h]; rfl
end Go.Proofs.YthiabbgkfmopiaaGreat

