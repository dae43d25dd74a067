/- Chapter 15: what a world without a fault is, said over data alone; the codes in the order in which both sides ask. -/
import Derived.Test.YthiabbgkfmopiaaGreatSes
import Derived.Test.YthiabbgkfmopiaaGreatWorldC
import Derived.Test.YthiabbgkfmopiaaGreatCert
import Derived.Test.YthiabbgkfmopiaaGreatJoint7
import Derived.Test.YthiabbgkfmopiaaGreatJoint4
import Derived.Test.YthiabbgkfmopiaaGreatJoint13
import Derived.Test.YthiabbgkfmopiaaGreatPick
namespace Go.Proofs.YthiabbgkfmopiaaGreat

/-- The code of a link; g: how the held are asked (hdC: the program; hdS: the specification). -/
def lkF (g : List HeldD → Int) (a : LinkD) : Int :=
  if inB a.1 1 9 = true ∧ inB a.2.1 1 9 = true then (if seF g a.2.2.1 = 0 then (if seF g a.2.2.2 = 0 then (if a.2.2.1.2.1 = 1 ∧ a.2.2.2.2.1 = 2 ∧ sameB a.2.2.1.1 a.2.2.2.1 = true then 0 else 1) else seF g a.2.2.2) else seF g a.2.2.1) else 3
/-- A link without a fault. -/
structure Lnk (a : LinkD) : Prop where
  a1 : 1 ≤ a.1 ∧ a.1 ≤ 9
  b1 : 1 ≤ a.2.1 ∧ a.2.1 ≤ 9
  cl : Ses a.2.2.1
  sv : Ses a.2.2.2
  r1 : a.2.2.1.2.1 = 1
  r2 : a.2.2.2.2.1 = 2
  ex : a.2.2.1.1 = a.2.2.2.1
theorem lkF_iff {g : List HeldD → Int} (hg : ∀ x : SesD, seF g x = 0 ↔ Ses x) {a : LinkD} : lkF g a = 0 ↔ Lnk a := by
  unfold lkF
  by_cases h1 : inB a.1 1 9 = true ∧ inB a.2.1 1 9 = true
  · rw [if_pos h1]
    have e1 : (1 ≤ a.1 ∧ a.1 ≤ 9) ∧ (1 ≤ a.2.1 ∧ a.2.1 ≤ 9) := by simpa [inB] using h1
    by_cases h2 : seF g a.2.2.1 = 0
    · rw [if_pos h2]
      by_cases h3 : seF g a.2.2.2 = 0
      · rw [if_pos h3]
        by_cases h4 : a.2.2.1.2.1 = 1 ∧ a.2.2.2.2.1 = 2 ∧ sameB a.2.2.1.1 a.2.2.2.1 = true
        · rw [if_pos h4]
          exact ⟨fun _ => ⟨e1.1, e1.2, (hg _).1 h2, (hg _).1 h3, h4.1, h4.2.1, sameB_eq.1 h4.2.2⟩, fun _ => rfl⟩
        · rw [if_neg h4]
          exact ⟨fun k => absurd k (by decide), fun k => absurd ⟨k.r1, k.r2, sameB_eq.2 k.ex⟩ h4⟩
      · rw [if_neg h3]
        exact ⟨fun k => absurd k h3, fun k => absurd ((hg _).2 k.sv) h3⟩
    · rw [if_neg h2]
      exact ⟨fun k => absurd k h2, fun k => absurd ((hg _).2 k.cl) h2⟩
  · rw [if_neg h1]
    exact ⟨fun k => absurd k (by decide), fun k => absurd (by simpa [inB] using ⟨k.a1, k.b1⟩) h1⟩
/-- An event of a world of n links. -/
def evB (n : Nat) (e : EventD) : Bool :=
  inB e.1 1 3 && inB e.2.1 0 ((n : Int) - 1) && inB e.2.2.1 1 2 && inB e.2.2.2.2.1 1 99 && inB e.2.2.2.2.2 0 9 && (if e.1 = 3 then (e.2.2.2.1.length : Int) == 0 else inB (e.2.2.2.1.length : Int) 1 20)
/-- The code of links, the first that is told. -/
def lksF (g : List HeldD → Int) : List LinkD → Int
  | [] => 0
  | a :: l => if lkF g a = 0 then lksF g l else lkF g a
theorem lksF_iff {g : List HeldD → Int} (hg : ∀ x : SesD, seF g x = 0 ↔ Ses x) : ∀ {l : List LinkD}, lksF g l = 0 ↔ ∀ a ∈ l, Lnk a
  | [] => ⟨fun _ _ h => (by cases h), fun _ => rfl⟩
  | a :: l => by
    unfold lksF
    by_cases h : lkF g a = 0
    · rw [if_pos h, lksF_iff hg]
      refine ⟨fun k b hb => ?_, fun k b hb => k b (List.mem_cons_of_mem _ hb)⟩
      rcases List.mem_cons.1 hb with rfl | hb
      · exact (lkF_iff hg).1 h
      · exact k b hb
    · rw [if_neg h]
      exact ⟨fun k => absurd k h, fun k => absurd ((lkF_iff hg).2 (k a (List.mem_cons_self ..))) h⟩
/-- The code of a world. -/
def wfF (g : List HeldD → Int) (x : WorldD) : Int :=
  if inB x.1 0 9000 = true then (if ctC x.2.1 = 0 then (if sgC x.2.2.2.1 = 0 then
    (if 8 < x.2.2.1.length ∨ 4 < x.2.2.2.2.1.length ∨ 30 < x.2.2.2.2.2.1.length ∨ 60 < x.2.2.2.2.2.2.length then 2 else
    (if x.2.2.1.all (fun i => inB i 1 99) = true then (if lksF g x.2.2.2.2.1 = 0 then (if x.2.2.2.2.2.1.all (fun d => decide (d.length ≤ 160)) = true then (if x.2.2.2.2.2.2.all (evB x.2.2.2.2.1.length) = true then 0 else 3) else 2) else lksF g x.2.2.2.2.1) else 3)) else sgC x.2.2.2.1) else ctC x.2.1) else 3
/-- The code of a world's parts, where there are not too many of anything. -/
def pfF (g : List HeldD → Int) (x : WorldD) : Int :=
  if x.2.2.1.all (fun i => inB i 1 99) = true then (if lksF g x.2.2.2.2.1 = 0 then (if x.2.2.2.2.2.1.all (fun d => decide (d.length ≤ 160)) = true then (if x.2.2.2.2.2.2.all (evB x.2.2.2.2.1.length) = true then 0 else 3) else 2) else lksF g x.2.2.2.2.1) else 3
theorem lksF_at {g : List HeldD → Int} : ∀ {l : List LinkD} {k : Nat} {a : LinkD}, l[k]? = some a → (∀ j b, j < k → l[j]? = some b → lkF g b = 0) → lkF g a ≠ 0 → lksF g l = lkF g a
  | [], _, _, h, _, _ => by simp at h
  | b :: l, 0, a, h, _, hn => by
    simp at h
    subst h
    unfold lksF
    rw [if_neg hn]
  | b :: l, k + 1, a, h, ha, hn => by
    unfold lksF
    rw [if_pos (ha 0 b (by omega) (by simp)), lksF_at (by simpa using h) (fun j c hj hc => ha (j + 1) c (by omega) (by simpa using hc)) hn]
theorem lksF_zero {g : List HeldD → Int} : ∀ {l : List LinkD}, (∀ a ∈ l, lkF g a = 0) → lksF g l = 0
  | [], _ => rfl
  | a :: l, h => by
    unfold lksF
    rw [if_pos (h a (List.mem_cons_self ..))]
    exact lksF_zero fun b hb => h b (List.mem_cons_of_mem _ hb)
/-- A world without a fault. -/
structure Wld (x : WorldD) : Prop where
  now : inB x.1 0 9000 = true
  ct : ctC x.2.1 = 0
  sg : sgC x.2.2.2.1 = 0
  ln : x.2.2.1.length ≤ 8 ∧ x.2.2.2.2.1.length ≤ 4 ∧ x.2.2.2.2.2.1.length ≤ 30 ∧ x.2.2.2.2.2.2.length ≤ 60
  lk : ∀ i ∈ x.2.2.1, inB i 1 99 = true
  li : ∀ a ∈ x.2.2.2.2.1, Lnk a
  po : ∀ d ∈ x.2.2.2.2.2.1, d.length ≤ 160
  ev : ∀ e ∈ x.2.2.2.2.2.2, evB x.2.2.2.2.1.length e = true
theorem wfF_iff {g : List HeldD → Int} (hg : ∀ x : SesD, seF g x = 0 ↔ Ses x) {x : WorldD} : wfF g x = 0 ↔ Wld x := by
  unfold wfF
  by_cases h1 : inB x.1 0 9000 = true
  · rw [if_pos h1]
    by_cases h2 : ctC x.2.1 = 0
    · rw [if_pos h2]
      by_cases h3 : sgC x.2.2.2.1 = 0
      · rw [if_pos h3]
        by_cases h4 : 8 < x.2.2.1.length ∨ 4 < x.2.2.2.2.1.length ∨ 30 < x.2.2.2.2.2.1.length ∨ 60 < x.2.2.2.2.2.2.length
        · rw [if_pos h4]
          exact ⟨fun k => absurd k (by decide), fun k => by have := k.ln; omega⟩
        · rw [if_neg h4]
          by_cases h5 : x.2.2.1.all (fun i => inB i 1 99) = true
          · rw [if_pos h5]
            by_cases h6 : lksF g x.2.2.2.2.1 = 0
            · rw [if_pos h6]
              by_cases h7 : x.2.2.2.2.2.1.all (fun d => decide (d.length ≤ 160)) = true
              · rw [if_pos h7]
                by_cases h8 : x.2.2.2.2.2.2.all (evB x.2.2.2.2.1.length) = true
                · rw [if_pos h8]
                  exact ⟨fun _ => ⟨h1, h2, h3, by omega, fun i hi => List.all_eq_true.1 h5 i hi, (lksF_iff hg).1 h6, fun d hd => by simpa using List.all_eq_true.1 h7 d hd, fun e he => List.all_eq_true.1 h8 e he⟩, fun _ => rfl⟩
                · rw [if_neg h8]
                  exact ⟨fun k => absurd k (by decide), fun k => absurd (List.all_eq_true.2 k.ev) h8⟩
              · rw [if_neg h7]
                exact ⟨fun k => absurd k (by decide), fun k => absurd (List.all_eq_true.2 fun d hd => decide_eq_true (k.po d hd)) h7⟩
            · rw [if_neg h6]
              exact ⟨fun k => absurd k h6, fun k => absurd ((lksF_iff hg).2 k.li) h6⟩
          · rw [if_neg h5]
            exact ⟨fun k => absurd k (by decide), fun k => absurd (List.all_eq_true.2 k.lk) h5⟩
      · rw [if_neg h3]
        exact ⟨fun k => absurd k h3, fun k => absurd k.sg h3⟩
    · rw [if_neg h2]
      exact ⟨fun k => absurd k h2, fun k => absurd k.ct h2⟩
  · rw [if_neg h1]
    exact ⟨fun k => absurd k (by decide), fun k => absurd k.now h1⟩
theorem wfC_iff {x : WorldD} : wfF hdC x = 0 ↔ Wld x := wfF_iff fun _ => seC_iff
theorem wfS_iff {x : WorldD} : wfF hdS x = 0 ↔ Wld x := wfF_iff fun _ => seS_iff
end Go.Proofs.YthiabbgkfmopiaaGreat

/- The contracts of the certificates in the specification: l12One, l12At, l12Fault, CertsFault, l12Pack, PackCert, l12Unpack, UnpackCert, LookCert, at every argument. What was there stays. -/
namespace Go.Proofs.YthiabbgkfmopiaaGreat
open Go.ChangeShapes Go.WideShapes Go.ChangeAt Go.RowKit

set_option maxRecDepth 4000 in
set_option maxHeartbeats 400000 in
theorem l12One_c (b o : Nat) (c : CertD) (w : World) (c0 : w.cell? ⟨b, o, none⟩ = some (.int .i64 c.1)) (c1 : w.cell? ⟨b, o + 1, none⟩ = some (.int .i64 c.2.1)) (c2 : w.cell? ⟨b, o + 2, none⟩ = some (.int .i64 c.2.2)) :
    Calls Tryz.prog 65 #[.pointer (some ⟨b, o, none⟩)] w fun e w' => e = .returned (.bool (okC c)) ∧ w' = w := by
  cases h1 : inB c.1 1 99
  · rw [show okC c = false by simp [okC, h1]]
    go_enter Tryz.func65, Tryz.ntmps65
    go_wp2_with fail
    refine (l1In_c _ _ _ _).mono ?_
    rintro e w' ⟨rfl, rfl⟩
    rw [h1]
    go_wp2
    go_ret
    exact ⟨rfl, rfl⟩
  · cases h2 : inB c.2.1 1 9
    · rw [show okC c = false by simp [okC, h2]]
      go_enter Tryz.func65, Tryz.ntmps65
      go_wp2_with fail
      refine (l1In_c _ _ _ _).mono ?_
      rintro e w' ⟨rfl, rfl⟩
      rw [h1]
      go_wp2_with fail
      refine (l1In_c _ _ _ _).mono ?_
      rintro e w' ⟨rfl, rfl⟩
      rw [h2]
      go_wp2
      go_ret
      exact ⟨rfl, rfl⟩
    · rw [show okC c = inB c.2.2 0 9999 by simp [okC, h1, h2]]
      go_enter Tryz.func65, Tryz.ntmps65
      go_wp2_with fail
      refine (l1In_c _ _ _ _).mono ?_
      rintro e w' ⟨rfl, rfl⟩
      rw [h1]
      go_wp2_with fail
      refine (l1In_c _ _ _ _).mono ?_
      rintro e w' ⟨rfl, rfl⟩
      rw [h2]
      go_wp2_with fail
      refine (l1In_c _ _ _ _).mono ?_
      rintro e w' ⟨rfl, rfl⟩
      go_wp2
      go_ret
      exact ⟨rfl, rfl⟩
/-- Where the first one of that number stands; -1: nowhere. -/
def ixC (l : List CertD) (id : Int) : Int := if hasC l id then (l.findIdx fun c => c.1 == id : Nat) else -1
theorem ixC_at {l : List CertD} {k : Nat} {a : CertD} {id : Int} (h : l[k]? = some a) (hn : hasC (l.take k) id = false) (he : a.1 = id) : ixC l id = k := by
  unfold ixC
  rw [if_pos (hasC_at h he)]
  congr 1
  obtain ⟨hk, ha⟩ := List.getElem?_eq_some_iff.1 h
  refine (List.findIdx_eq hk).2 ⟨by rw [ha]; simpa using he, fun j hj => ?_⟩
  simp only [hasC, List.any_eq_false] at hn
  have := hn l[j] (by rw [List.mem_take_iff_getElem]; exact ⟨j, by omega, rfl⟩)
  simpa using this
theorem ixC_none {l : List CertD} {id : Int} (h : hasC l id = false) : ixC l id = -1 := by unfold ixC; rw [h]; rfl
theorem ixC_some {l : List CertD} {id : Int} (h : hasC l id = true) : ∃ k : Nat, ixC l id = (k : Int) ∧ l[k]? = some (foC l id) ∧ (foC l id).1 = id := by
  refine ⟨l.findIdx fun c => c.1 == id, by unfold ixC; rw [if_pos h], ?_⟩
  simp only [hasC, List.any_eq_true] at h
  have hlt : l.findIdx (fun c => c.1 == id) < l.length := List.findIdx_lt_length.2 h
  have hp := List.findIdx_getElem (w := hlt)
  have e : foC l id = l[l.findIdx (fun c => c.1 == id)] := by
    unfold foC atC
    rw [List.find?_eq_getElem?_findIdx, List.getElem?_eq_getElem hlt]
    rfl
  rw [e]
  exact ⟨List.getElem?_eq_getElem hlt, by simpa using hp⟩
theorem ixC_self {l : List CertD} {k : Nat} {a : CertD} (h : l[k]? = some a) : (ixC l a.1 = (k : Int)) ↔ hasC (l.take k) a.1 = false := by
  constructor
  · intro he
    cases hh : hasC (l.take k) a.1
    · rfl
    · exfalso
      simp only [hasC, List.any_eq_true] at hh
      obtain ⟨x, hx, hx2⟩ := hh
      rw [List.mem_take_iff_getElem] at hx
      obtain ⟨j, hj, rfl⟩ := hx
      unfold ixC at he
      rw [if_pos (hasC_at h rfl)] at he
      have he2 : (l.findIdx fun c => c.1 == a.1) = k := by omega
      have := List.not_of_lt_findIdx (xs := l) (p := fun c => c.1 == a.1) (i := j) (by omega)
      rw [hx2] at this; cases this
  · intro hn; exact ixC_at h hn rfl

set_option maxRecDepth 4000 in
set_option maxHeartbeats 400000 in
theorem l12At_c (l : List CertD) (p : Option Addr) (q : Nat) (id : Int) (w : World) (hr : RdL certC w p q l) :
    Calls Tryz.prog 44 #[.slice p l.length q, .int .i64 id] w fun e w' => e = .returned (.int .i64 (ixC l id)) ∧ w' = w := by
  have HR : Hid (RdL certC w p q l) := hr
  have hq1 : l.length ≤ q := hr.1
  have hq2 : q ≤ 2 ^ 63 - 1 := hr.2.1
  clear hr
  go_enter Tryz.func44, Tryz.ntmps44
  go_wp2
  go_loopw [5] (fun i wr => wr = w ∧ ∃ k : Nat, k ≤ l.length ∧ i = .int .i64 k ∧ hasC (l.take k) id = false)
    (fun i _ => l.length - (intOf i).toNat)
  case atStart => exact ⟨rfl, 0, Nat.zero_le _, rfl, hasC_zero _ _⟩
  case round =>
    obtain ⟨rfl, k, hk, rfl, hn⟩ := hrel
    by_cases hlt : k < l.length
    · have hI : (k : Int) < (l.length : Int) := by omega
      obtain ⟨b, o, e1, hc⟩ := HR.out.2.2.2 (by omega)
      subst e1
      obtain ⟨a, ha⟩ : ∃ a, l[k]? = some a := ⟨l[k], by simp [hlt]⟩
      obtain ⟨us, hrep, hcell⟩ := hc k a ha
      obtain rfl := cert_rep hrep
      have c0 := hcell 0 _ rfl
      rw [show certC.n = 3 from rfl] at c0
      rw [Nat.add_zero] at c0
      clear hc hcell hrep
      by_cases he : a.1 = id
      · have d : (a.1 == id) = true := by rw [beq_iff_eq]; exact he
        have HE : Hid (ixC l id = k) := ixC_at ha hn he
        clear he hn
        go_wp2
        go_ret
        exact ⟨by rw [HE.out]; rfl, rfl⟩
      · have d : (a.1 == id) = false := by rw [beq_eq_false_iff_ne]; exact he
        have hn2 : Hid (hasC (l.take (k + 1)) id = false) := by show _ = _; rw [hasC_take ha, hn, d]; rfl
        clear he hn
        go_wp2
        go_roundw
        case rel => exact ⟨trivial, k + 1, by omega, by go_num, hn2.out⟩
        case measure => simp [intOf]; omega
    · have e : k = l.length := by omega
      subst e
      rw [List.take_length] at hn
      go_wp2
      go_ret
      exact ⟨by rw [ixC_none hn]; rfl, rfl⟩

set_option maxRecDepth 4000 in
set_option maxHeartbeats 400000 in
theorem l12Fault_c (l : List CertD) (p : Option Addr) (q : Nat) (w : World) (hr : RdL certC w p q l) :
    Calls Tryz.prog 40 #[.slice p l.length q] w fun e w' => e = .returned (.int .i64 (ctC l)) ∧ w' = w := by
  have HR : Hid (RdL certC w p q l) := hr
  have hq1 : l.length ≤ q := hr.1
  have hq2 : q ≤ 2 ^ 63 - 1 := hr.2.1
  clear hr
  by_cases hl : l.length ≤ 8
  · have hlI : ¬ (8 < (l.length : Int)) := by omega
    have HC : Hid (ctC l = cgC [] l) := by show _ = _; rw [ctC, if_pos hl]
    go_enter Tryz.func40, Tryz.ntmps40
    go_wp2
    go_loopw [3] (fun i wr => wr = w ∧ ∃ k : Nat, k ≤ l.length ∧ i = .int .i64 k ∧ ctC l = cgC (l.take k) (l.drop k))
      (fun i _ => l.length - (intOf i).toNat)
    case atStart => exact ⟨rfl, 0, Nat.zero_le _, rfl, HC.out⟩
    case round =>
      obtain ⟨rfl, k, hk, rfl, hn⟩ := hrel
      by_cases hlt : k < l.length
      · have hI : (k : Int) < (l.length : Int) := by omega
        obtain ⟨b, o, e1, hc⟩ := HR.out.2.2.2 (by omega)
        subst e1
        obtain ⟨a, ha⟩ : ∃ a, l[k]? = some a := ⟨l[k], by simp [hlt]⟩
        obtain ⟨us, hrep, hcell⟩ := hc k a ha
        obtain rfl := cert_rep hrep
        have c0 := hcell 0 _ rfl
        have c1 := hcell 1 _ rfl
        have c2 := hcell 2 _ rfl
        rw [show certC.n = 3 from rfl] at c0 c1 c2
        rw [Nat.add_zero] at c0
        have K1 : Hid (Calls Tryz.prog 65 #[.pointer (some ⟨b, o + k * 3, none⟩)] wr fun e w' => e = .returned (.bool (okC a)) ∧ w' = wr) := l12One_c b (o + k * 3) a wr c0 c1 c2
        have K2 : Hid (Calls Tryz.prog 44 #[.slice (some ⟨b, o, none⟩) l.length q, .int .i64 a.1] wr fun e w' => e = .returned (.int .i64 (ixC l a.1)) ∧ w' = wr) := l12At_c l _ q a.1 wr HR.out
        clear hc hcell hrep c1 c2
        cases ho : okC a
        · have hn2 : Hid (ctC l = 3) := hn.trans (cgC_bad ha ho)
          rw [ho] at K1
          clear hn
          go_wp2_with fail
          refine K1.out.mono ?_
          rintro e w2 ⟨rfl, rfl⟩
          go_wp2
          go_ret
          exact ⟨by rw [hn2.out]; rfl, rfl⟩
        · rw [ho] at K1
          by_cases ht : ixC l a.1 = (k : Int)
          · have hn2 : Hid (ctC l = cgC (l.take (k + 1)) (l.drop (k + 1))) := hn.trans (cgC_step ha ho ((ixC_self ha).1 ht))
            rw [ht] at K2
            clear hn ht
            go_wp2_with fail
            refine K1.out.mono ?_
            rintro e w2 ⟨rfl, rfl⟩
            go_wp2_with fail
            refine K2.out.mono ?_
            rintro e w2 ⟨rfl, rfl⟩
            go_wp2_with fail
            go_roundw
            case rel => exact ⟨trivial, k + 1, by omega, by go_num, hn2.out⟩
            case measure => simp [intOf]; omega
          · have hn2 : Hid (ctC l = 6) := hn.trans (cgC_taken ha ho (by cases h : hasC (l.take k) a.1; exact absurd ((ixC_self ha).2 h) ht; rfl))
            obtain ⟨z, hz⟩ : ∃ z, Hid (ixC l a.1 = z) := ⟨_, rfl⟩
            rw [hz.out] at K2 ht
            have d : (z != (k : Int)) = true := by rw [bne_iff_ne]; exact ht
            clear hn ht hz
            go_wp2_with fail
            refine K1.out.mono ?_
            rintro e w2 ⟨rfl, rfl⟩
            go_wp2_with fail
            refine K2.out.mono ?_
            rintro e w2 ⟨rfl, rfl⟩
            go_wp2
            go_ret
            exact ⟨by rw [hn2.out]; rfl, rfl⟩
      · have e : k = l.length := by omega
        subst e
        have hn2 : Hid (ctC l = 0) := hn.trans (cgC_end l)
        clear hn
        go_wp2
        go_ret
        exact ⟨by rw [hn2.out]; rfl, rfl⟩
  · have hlI : 8 < (l.length : Int) := by omega
    rw [show ctC l = 2 by rw [ctC, if_neg hl]]
    clear hl
    go_enter Tryz.func40, Tryz.ntmps40
    go_wp2
    go_ret
    exact ⟨rfl, rfl⟩
theorem bytesLit_own (w : World) (bs : List UInt8) (B : Nat) (hB : B ≤ w.heap.size) (hl : bs.length ≤ 1000) : Own (w.alloc (.cells (bs.map u8v).toArray 5)) B (.slice (some ⟨w.heap.size, 0, none⟩) bs.length bs.length) bs := by
  have h := World.ownsRow_lit (base := B) (e := 5) (size := 1) w (bs.map u8v).toArray bs.length hB (by unfold maxLen; omega) (by simp)
  exact h
theorem u8v_mod {a : Int} (h : 0 ≤ a) : u8v (UInt8.ofNat a.toNat) = .int .u8 (a % 256) := by
  unfold u8v; rw [UInt8.toNat_ofNat']; congr 1; omega
theorem pcL_put {c : CertD} : pcL c = [UInt8.ofNat c.1.toNat, UInt8.ofNat c.2.1.toNat] ++ putB c.2.2.toNat 2 := by
  have q : ∀ (m n : Nat), m % 256 = n % 256 → UInt8.ofNat m = UInt8.ofNat n := fun m n h => by
    apply UInt8.toNat_inj.1; rw [UInt8.toNat_ofNat', UInt8.toNat_ofNat']; exact h
  simp only [pcL, putB, List.cons_append, List.nil_append, List.cons.injEq, true_and, and_true]
  exact ⟨q _ _ (by omega), q _ _ (by omega)⟩
end Go.Proofs.YthiabbgkfmopiaaGreat

