/- Lists of whole numbers (int64) as arguments of the laws: read as such, kept in a stretch of memory, marked. What was there stays. -/
import Derived.Test.YtklglpmlfboglaaJoint6
import Derived.Test.YtklglpmlfboglaaJoint4
import Derived.Test.YtklglpmlfboglaaJoint8
import Derived.Test.YtklglpmlfboglaaMac
import Derived.Test.YtklglpmlfboglaaArr
import Derived.Test.YtklglpmlfboglaaJoint7
import Derived.Test.YtklglpmlfboglaaJoint3
import Derived.Deep.AppendLies
namespace Go.Proofs.Ytklglpmlfboglaa
open Go.ChangeShapes Go.WideShapes Go.ChangeAt Go.RowKit

theorem rdI_cod {w : World} {p : Option Addr} {q : Nat} {l : List Int} (h : RdL (intC .i64) w p q l) : RdI w p q l := by
  obtain ⟨h1, h2, h3, h4⟩ := h
  refine ⟨h1, h2, h3, fun hp => ?_⟩
  obtain ⟨b, o, rfl, hc⟩ := h4 hp
  refine ⟨b, o, rfl, fun i hi => ?_⟩
  obtain ⟨us, hu, hcell⟩ := hc i l[i] (by simp [hi])
  have e : us = [Value.int .i64 l[i]] := hu
  subst e
  have h5 := hcell 0 _ rfl
  rw [show (intC .i64).n = 1 from rfl, Nat.mul_one, Nat.add_zero] at h5
  rw [h5, atI_get hi]
theorem OwnI.fr {w w' : World} {B : Nat} {v : Value} {l : List Int} (h : OwnI w B v l) (hk : ∀ k, v.ownBlock = some k → w'.heap[k]? = w.heap[k]?) : OwnI w' B v l := ownsRow_fr h hk
theorem OwnI.ins {w : World} {B : Nat} {v : Value} {l : List Int} (h : OwnI w B v l) : ∀ k, k ∈ v.ownBlock.toList → B ≤ k ∧ k < w.heap.size := fun k hk => World.ownsRow.lt h k (mem_opt.1 hk)
theorem OwnI.win {w : World} {B lo hi : Nat} {v : Value} {l : List Int} (h : OwnI w B v l) (ht : hi ≤ w.heap.size) (hin : ∀ k, k ∈ v.ownBlock.toList → lo ≤ k ∧ k < hi) : Win (fun w => OwnI w B v l) lo hi w :=
  ⟨h, ht, fun _ hs => h.fr fun k hk => hs k (hin k (mem_opt.2 hk)).1 (hin k (mem_opt.2 hk)).2⟩
end Go.Proofs.Ytklglpmlfboglaa

/- The contracts of the draws of chapter 3: keys, data, labels, contexts, numbers: within bounds, no more. -/
namespace Go.Proofs.Ytklglpmlfboglaa
open Go.ChangeShapes Go.WideShapes Go.ChangeAt Go.RowKit



/-- A row that was drawn ahead of other draws. -/
theorem Own.draw {w w' : World} {B b : Nat} {v : Value} {bs : List UInt8} (h : Own w B v bs) (hg : w.grownBy w' (some b)) (hb : b < B) : Own w' B v bs :=
  h.other hg (fun k hk e => by have := h.ge k hk; simp at e; omega)




def labs : List (List UInt8) := [[100, 101, 114, 105, 118, 101, 100], [99, 32, 104, 115, 32, 116, 114, 97, 102, 102, 105, 99], [102, 105, 110, 105, 115, 104, 101, 100], [97], [], [120, 10], [97, 98, 99, 100, 101, 102, 103, 104, 105, 106, 107, 108, 109, 110, 111, 112, 113, 114, 115, 116, 117, 118, 119, 120, 121, 122, 97, 98, 99, 100, 101, 102, 103, 104, 105, 106, 107, 108, 109, 110, 111]]
def labsV : List Value := labs.map (fun l => .string (strB l))
theorem labsV_at {k : Nat} (h : k < 7) : ∃ l : List UInt8, labsV[k]? = some (.string (strB l)) ∧ l.length ≤ 41 := by
  have hl : k < labs.length := h
  refine ⟨labs[k], by simp [labsV, hl], ?_⟩
  have : ∀ x ∈ labs, x.length ≤ 41 := by unfold labs; decide
  exact this _ (List.getElem_mem hl)




end Go.Proofs.Ytklglpmlfboglaa

/- The contracts of MixRound and of what it calls besides a round, in the specification and in the program: both answer mixCode and mixList, at every argument. -/
namespace Go.Proofs.Ytklglpmlfboglaa
open Go.ChangeShapes Go.WideShapes Go.ChangeAt Go.RowKit

def isW (v : Int) : Bool := inB v 0 4294967295
def mixOk (l : List Int) (word key : Int) : Bool := l.all isW && isW word && isW key
def s8 (l : List Int) : S8 := ⟨(atI l 0).toNat, (atI l 1).toNat, (atI l 2).toNat, (atI l 3).toNat, (atI l 4).toNat, (atI l 5).toNat, (atI l 6).toNat, (atI l 7).toNat⟩
def mixCode (l : List Int) (word key : Int) : Int := if l.length = 8 then (if mixOk l word key then 0 else 3) else 1
def mixList (l : List Int) (word key : Int) : List Int := if l.length = 8 then (if mixOk l word key then (roundN (s8 l) word.toNat key.toNat).list.map Int.ofNat else []) else []
theorem mixList_len (l : List Int) (word key : Int) : (mixList l word key).length ≤ 8 := by
  unfold mixList; split
  · split <;> simp [S8.list]
  · simp
theorem isW_at {l : List Int} (h : l.all isW = true) (i : Nat) : 0 ≤ atI l i ∧ atI l i ≤ 4294967295 := by
  unfold atI
  rw [List.getD_eq_getElem?_getD]
  cases e : l[i]? with
  | none => simp
  | some x =>
    have h2 := (List.all_eq_true.1 h) x (List.mem_of_getElem? e)
    simpa [isW, inB] using h2
theorem all_of_at {l : List Int} (h : ∀ j, j < l.length → isW (atI l j) = true) : l.all isW = true := by
  rw [List.all_eq_true]
  intro x hx
  obtain ⟨i, hi, rfl⟩ := List.mem_iff_getElem.1 hx
  rw [← atI_get hi]; exact h i hi
theorem not_all_at {l : List Int} {j : Nat} (hj : j < l.length) (h : isW (atI l j) = false) : l.all isW = false := by
  rw [List.all_eq_false]
  exact ⟨l[j], List.getElem_mem hj, by rw [← atI_get hj, h]; simp⟩
theorem partI_arr (l : List Int) (k : Nat) (h : k < l.length) : (partI l l.length k).set k (.int .i64 (atI l k)) = partI l l.length (k + 1) := partI_set l k h

theorem i64_of_l {l : List Int} (h : l.length = 8) (ha : l.all isW = true) : (l.map i64z).toArray = (s8 l).i64 := by
  have e := fun i => Int.toNat_of_nonneg (isW_at ha i).1
  have e0 := e 0; have e1 := e 1; have e2 := e 2; have e3 := e 3; have e4 := e 4; have e5 := e 5; have e6 := e 6; have e7 := e 7
  unfold S8.i64 s8
  simp only [e0, e1, e2, e3, e4, e5, e6, e7]
  match l, h with
  | [a, b, c, d, e, f, g, q], _ => rfl
theorem s8_ok {l : List Int} (ha : l.all isW = true) : (s8 l).ok := by
  have e : ∀ i, (atI l i).toNat < 4294967296 := fun i => by have := isW_at ha i; omega
  exact ⟨e 0, e 1, e 2, e 3, e 4, e 5, e 6, e 7⟩
theorem isW_nat {v : Int} (h : isW v = true) : ∃ n : Nat, v = n ∧ n < 4294967296 := by
  simp [isW, inB] at h
  exact ⟨v.toNat, by omega, by omega⟩


def u32z (z : Int) : Value := .int .u32 z
theorem u32z_at {l : List Int} {i : Nat} (h : i < l.length) : (l.map u32z)[i]? = some (.int .u32 (atI l i)) := by simp [u32z, atI, h]
theorem u32_of_l {l : List Int} (h : l.length = 8) (ha : l.all isW = true) : (l.map u32z).toArray = (s8 l).u32 := by
  have e := fun i => Int.toNat_of_nonneg (isW_at ha i).1
  have e0 := e 0; have e1 := e 1; have e2 := e 2; have e3 := e 3; have e4 := e 4; have e5 := e 5; have e6 := e 6; have e7 := e 7
  unfold S8.u32 s8
  simp only [e0, e1, e2, e3, e4, e5, e6, e7]
  match l, h with
  | [a, b, c, d, e, f, g, q], _ => rfl



theorem allW_nat {ws : List Nat} (h : Words ws) : (ws.map Int.ofNat).all isW = true := by
  rw [List.all_eq_true]
  intro x hx
  obtain ⟨n, hn, rfl⟩ := List.mem_map.1 hx
  have := h n hn
  simp [isW, inB]
  omega
theorem S8.words {s : S8} (h : s.ok) : Words s.list := by
  intro x hx
  simp only [S8.list, List.mem_cons, List.not_mem_nil, or_false] at hx
  obtain ⟨h1, h2, h3, h4, h5, h6, h7, h8⟩ := h
  rcases hx with rfl | rfl | rfl | rfl | rfl | rfl | rfl | rfl <;> assumption

end Go.Proofs.Ytklglpmlfboglaa

