/- The contracts of MixRound and of what it calls besides a round, in the specification and in the program: both answer mixCode and mixList, at every argument. -/
import Derived.Test.YtbgdhjeccdooiaaRound
import Derived.Test.YtbgdhjeccdooiaaWords
import Derived.Test.YtbgdhjeccdooiaaCopyI
import Derived.Test.YtbgdhjeccdooiaaArr
import Derived.Deep.AppendLies
namespace Go.Proofs.Ytbgdhjeccdooiaa
open Go.ChangeShapes Go.WideShapes Go.ChangeAt Go.RowKit

def isW (v : Int) : Bool := inB v 0 4294967295
def mixOk (l : List Int) (word key : Int) : Bool := l.all isW && isW word && isW key
def s8 (l : List Int) : S8 := ⟨(atI l 0).toNat, (atI l 1).toNat, (atI l 2).toNat, (atI l 3).toNat, (atI l 4).toNat, (atI l 5).toNat, (atI l 6).toNat, (atI l 7).toNat⟩
def mixCode (l : List Int) (word key : Int) : Int := if l.length = 8 then (if mixOk l word key then 0 else 3) else 1
def mixList (l : List Int) (word key : Int) : List Int := if l.length = 8 then (if mixOk l word key then (roundN (s8 l) word.toNat key.toNat).list.map Int.ofNat else []) else []
theorem mixList_len (l : List Int) (word key : Int) : (mixList l word key).length ≤ 8 := by
  unfold mixList; split
  · split <;> simp [S8.list]
  · simp
theorem isW_at {l : List Int} (h : l.all isW = true) (i : Nat) : 0 ≤ atI l i ∧ atI l i ≤ 4294967295 := by
  unfold atI
  rw [List.getD_eq_getElem?_getD]
  cases e : l[i]? with
  | none => simp
  | some x =>
    have h2 := (List.all_eq_true.1 h) x (List.mem_of_getElem? e)
    simpa [isW, inB] using h2
theorem all_of_at {l : List Int} (h : ∀ j, j < l.length → isW (atI l j) = true) : l.all isW = true := by
  rw [List.all_eq_true]
  intro x hx
  obtain ⟨i, hi, rfl⟩ := List.mem_iff_getElem.1 hx
  rw [← atI_get hi]; exact h i hi
theorem not_all_at {l : List Int} {j : Nat} (hj : j < l.length) (h : isW (atI l j) = false) : l.all isW = false := by
  rw [List.all_eq_false]
  exact ⟨l[j], List.getElem_mem hj, by rw [← atI_get hj, h]; simp⟩
theorem partI_arr (l : List Int) (k : Nat) (h : k < l.length) : (partI l l.length k).set k (.int .i64 (atI l k)) = partI l l.length (k + 1) := partI_set l k h

theorem i64_of_l {l : List Int} (h : l.length = 8) (ha : l.all isW = true) : (l.map i64z).toArray = (s8 l).i64 := by
  have e := fun i => Int.toNat_of_nonneg (isW_at ha i).1
  have e0 := e 0; have e1 := e 1; have e2 := e 2; have e3 := e 3; have e4 := e 4; have e5 := e 5; have e6 := e 6; have e7 := e 7
  unfold S8.i64 s8
  simp only [e0, e1, e2, e3, e4, e5, e6, e7]
  match l, h with
  | [a, b, c, d, e, f, g, q], _ => rfl
theorem s8_ok {l : List Int} (ha : l.all isW = true) : (s8 l).ok := by
  have e : ∀ i, (atI l i).toNat < 4294967296 := fun i => by have := isW_at ha i; omega
  exact ⟨e 0, e 1, e 2, e 3, e 4, e 5, e 6, e 7⟩
theorem isW_nat {v : Int} (h : isW v = true) : ∃ n : Nat, v = n ∧ n < 4294967296 := by
  simp [isW, inB] at h
  exact ⟨v.toNat, by omega, by omega⟩


def u32z (z : Int) : Value := .int .u32 z
theorem u32z_at {l : List Int} {i : Nat} (h : i < l.length) : (l.map u32z)[i]? = some (.int .u32 (atI l i)) := by simp [u32z, atI, h]
theorem u32_of_l {l : List Int} (h : l.length = 8) (ha : l.all isW = true) : (l.map u32z).toArray = (s8 l).u32 := by
  have e := fun i => Int.toNat_of_nonneg (isW_at ha i).1
  have e0 := e 0; have e1 := e 1; have e2 := e 2; have e3 := e 3; have e4 := e 4; have e5 := e 5; have e6 := e 6; have e7 := e 7
  unfold S8.u32 s8
  simp only [e0, e1, e2, e3, e4, e5, e6, e7]
  match l, h with
  | [a, b, c, d, e, f, g, q], _ => rfl

set_option maxHeartbeats 1000000 in
theorem allWords_c (a : Option Addr) (cap : Nat) (l : List Int) (w : World) (hr : RdI w a cap l) :
    Calls Try.prog 24 #[.slice a l.length cap] w fun e w' => e = .returned (.bool (l.all isW)) ∧ w' = w := by
  obtain ⟨h1, h2, h3, h4⟩ := hr
  unfold maxLen at h2
  go_enter Try.func24, Try.ntmps24
  go_wp2
  go_loop [7] (fun i => ∃ k : Nat, k ≤ l.length ∧ i = .int .i64 k ∧ (∀ j, j < k → isW (atI l j) = true))
    (fun i => l.length - (intOf i).toNat)
  case atStart => exact ⟨0, Nat.zero_le _, rfl, fun j hj => absurd hj (Nat.not_lt_zero _)⟩
  case round =>
    obtain ⟨k, hk, rfl, hall⟩ := hrel
    by_cases hlt : k < l.length
    · obtain ⟨b, o, rfl, hc⟩ := h4 (by omega)
      have hcx := hc k hlt
      clear hc h4
      cases hb : isW (atI l k)
      · have HN : Hid (l.all isW = false) := not_all_at hlt hb
        go_wp2_with fail
        refine (isWord_c _ _).mono ?_
        rintro e w' ⟨rfl, rfl⟩
        rw [show inB (atI l k) 0 4294967295 = false from hb]
        go_wp2
        go_ret
        exact ⟨by rw [HN.out]; rfl, rfl⟩
      · go_wp2_with fail
        refine (isWord_c _ _).mono ?_
        rintro e w' ⟨rfl, rfl⟩
        rw [show inB (atI l k) 0 4294967295 = true from hb]
        go_wp2
        go_round
        case rel => exact ⟨k + 1, by omega, by go_num, fun j hj => by by_cases h : j < k; exact hall j h; rw [show j = k by omega]; exact hb⟩
        case measure => simp [intOf]; omega
    · have e : k = l.length := by omega
      have HN : Hid (l.all isW = true) := all_of_at (by rw [← e]; exact hall)
      clear hall
      go_wp2
      go_ret
      exact ⟨by rw [HN.out]; rfl, rfl⟩

set_option maxHeartbeats 1000000 in
theorem numbersOf_c (b : Nat) (t : TypeId) (l : List Int) (w : World) (hA : Arr w b t (l.map u32z)) (hall : l.all isW = true) (hl : l.length ≤ 64) :
    Calls Try.prog 28 #[.slice (some ⟨b, 0, none⟩) l.length l.length] w fun e w' => ∃ v, e = .returned v ∧ OwnI w' w.heap.size v l ∧ Below w.heap.size w w' := by
  obtain ⟨i0, hi, hz0, hz1, hz2⟩ := info_parts info64
  have hm : l.length ≤ maxLen := by unfold maxLen; omega
  have HA : Hid (Arr w b t (l.map u32z)) := hA
  clear hA
  go_enter Try.func28, Try.ntmps28
  go_wp2_with (first
    | (at_make; refine wpList_make_full _ rfl (.tmp 7) (.tmp 7) 22 rfl w.heap.size 2 i0 (.int .i64 0) 1 Try.underlying22 hi hz0 hz1 .i64 .i64 _ _ l.length rfl rfl rfl rfl (by rw [hz2]; omega) hm (Nat.le_refl _) ?_; intro w1 hown hgrow)
    | go_in)
  rw [replicate_madeI, ← partI_zero l l.length] at hown
  have hb1 : Below w.heap.size w w1 := (Below.refl _ _).grown hgrow (Nat.le_refl _) (fun k hk => by simp at hk)
  clear hgrow hz0 hz1 hz2 hi
  go_loopw [11] (fun i wr => ∃ k : Nat, k ≤ l.length ∧ i = .int .i64 k ∧ wr.ownsRow w.heap.size 2 1 (.slice (some ⟨w.heap.size, 0, none⟩) l.length l.length) l.length (partI l l.length k) ∧ Below w.heap.size w wr)
    (fun i _ => l.length - (intOf i).toNat)
  case atStart => exact ⟨0, Nat.zero_le _, rfl, hown, hb1⟩
  case round =>
    obtain ⟨k, hk, rfl, hown, hbel⟩ := hrel
    by_cases hlt : k < l.length
    · have hcx : wr.cell? ⟨b, k, none⟩ = some (.int .u32 (atI l k)) := (hbel.cell (p := ⟨b, k, none⟩) HA.out.lt).trans ((HA.out.cell k).trans (u32z_at hlt))
      have hcy : wr.cell? ⟨w.heap.size, k, none⟩ = some (.int .i64 0) := by rw [World.ownsRow.cellAt hown k (by omega), partI_at l k hlt]
      have hfy : wr.frozen? ⟨w.heap.size, k, none⟩ = false := World.ownsRow.frozenAt hown k
      have R := World.ownsRow.stored hown k (.int .i64 (atI l k))
      rw [partI_set l k hlt] at R
      have RB : Below w.heap.size w (wr.setCell ⟨w.heap.size, k, none⟩ (.int .i64 (atI l k))) := hbel.setCell (Nat.le_refl _) _
      obtain ⟨h0, h1⟩ := isW_at hall k
      clear hown
      go_wp2
      go_roundw
      case rel => exact ⟨k + 1, by omega, by go_num, R.1, RB⟩
      case measure => simp [intOf]; omega
    · have e : k = l.length := by omega
      subst e
      rw [partI_all] at hown
      go_wp2
      go_ret
      exact ⟨_, rfl, hown, hbel⟩

theorem numbersOf_n (b n : Nat) (t : TypeId) (l : List Int) (w : World) (hn : l.length = n) (hA : Arr w b t (l.map u32z)) (hall : l.all isW = true) (hl : n ≤ 64) :
    Calls Try.prog 28 #[.slice (some ⟨b, 0, none⟩) n n] w fun e w' => ∃ v, e = .returned v ∧ OwnI w' w.heap.size v l ∧ Below w.heap.size w w' := by
  subst hn; exact numbersOf_c b t l w hA hall hl
theorem allW_nat {ws : List Nat} (h : Words ws) : (ws.map Int.ofNat).all isW = true := by
  rw [List.all_eq_true]
  intro x hx
  obtain ⟨n, hn, rfl⟩ := List.mem_map.1 hx
  have := h n hn
  simp [isW, inB]
  omega
theorem S8.words {s : S8} (h : s.ok) : Words s.list := by
  intro x hx
  simp only [S8.list, List.mem_cons, List.not_mem_nil, or_false] at hx
  obtain ⟨h1, h2, h3, h4, h5, h6, h7, h8⟩ := h
  rcases hx with rfl | rfl | rfl | rfl | rfl | rfl | rfl | rfl <;> assumption

end Go.Proofs.Ytbgdhjeccdooiaa
