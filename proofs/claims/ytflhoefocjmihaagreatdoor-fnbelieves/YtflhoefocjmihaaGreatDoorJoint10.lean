/- Lists of Sign as data (Cod), and the contracts of the laws' helpers on them (written by tools/listgen.py). -/
import Derived.Test.YtflhoefocjmihaaGreatDoorJoint9
import Derived.Test.YtflhoefocjmihaaGreatDoorJoint5
import Derived.Test.YtflhoefocjmihaaGreatDoorJoint3
import Derived.Test.YtflhoefocjmihaaGreatDoorJoint4
import Derived.Test.YtflhoefocjmihaaGreatDoorJoint8
import Derived.Deep.AppendLies
namespace Go.Proofs.YtflhoefocjmihaaGreatDoor
open Go.ChangeShapes Go.WideShapes Go.ChangeAt Go.RowKit

abbrev signsC : Cod (List SignD) := listC 49 signC
theorem infoSign : (Tryz.prog.info? 49).map (fun i => (i.zero, i.size, i.bytes)) = some (some (.agg #[.int .i64 0, .int .i64 0, .slice none 0 0]), 3, 40) := by kernel_rfl
def sumSign (l : List SignD) : Nat := (l.map (fun a => a.2.2.length)).sum
def sizeSign (l : List SignD) : Nat := sumSign l + l.length
def bulkSign (l : List SignD) : Nat := sumSign l + 2 * l.length
theorem bulkSign_le8 (l : List SignD) : bulkSign l ≤ 8 * sizeSign l := by unfold bulkSign sizeSign; omega
theorem sumSign_at {l : List SignD} {i : Nat} {a : SignD} (h : l[i]? = some a) : a.2.2.length ≤ sumSign l := by
  have hm := List.mem_of_getElem? h
  have h2 : ∀ l : List SignD, a ∈ l → a.2.2.length ≤ (l.map (fun a : SignD => a.2.2.length)).sum := fun l => by
    induction l with
    | nil => intro h; cases h
    | cons b l ih =>
      intro h
      rw [List.map_cons, List.sum_cons]
      rcases List.mem_cons.1 h with rfl | h
      · omega
      · have := ih h; omega
  exact h2 l hm
theorem sumSign_take {l : List SignD} {k : Nat} {a : SignD} (h : l[k]? = some a) : sumSign (l.take (k + 1)) = sumSign (l.take k) + a.2.2.length := by
  rw [List.take_add_one, h]; simp [sumSign]
theorem sumSign_le (l : List SignD) (k : Nat) : sumSign (l.take k) ≤ sumSign l := by
  conv => rhs; rw [← List.take_append_drop k l]
  unfold sumSign
  rw [List.map_append, List.sum_append]; omega
theorem sign_own {w : World} {B : Nat} {a : SignD} {vs : List Value} {fp : List Nat} (h : signC.own w B a vs fp) : ∃ v, vs = [.int .i64 a.1, .int .i64 a.2.1, v] ∧ Own w B v a.2.2 ∧ fp = v.ownBlock.toList := by
  obtain ⟨us0, ts0, f0, g0, rfl, rfl, _, ⟨rfl, rfl⟩, us1, ts1, f1, g1, rfl, rfl, _, ⟨rfl, rfl⟩, v, rfl, o, rfl⟩ := h
  exact ⟨v, rfl, o, rfl⟩
theorem sign_own_mk {w : World} {B : Nat} {a : SignD} {v : Value} (o : Own w B v a.2.2) : signC.own w B a [.int .i64 a.1, .int .i64 a.2.1, v] v.ownBlock.toList :=
  ⟨[_], _, [], _, rfl, rfl, nodup_opt _, ⟨rfl, rfl⟩, [_], _, [], _, rfl, rfl, nodup_opt _, ⟨rfl, rfl⟩, v, rfl, o, rfl⟩
def mkSign : List SignD → Nat → List SignD
  | [], _ => []
  | a :: l, m => (((m : Nat) : Int), ((m : Nat) : Int) + 1, marks (m + 2) a.2.2.length) :: mkSign l (m + 2 + a.2.2.length)
theorem bulkSign_cons (a : SignD) (l : List SignD) : bulkSign (a :: l) = a.2.2.length + 2 + bulkSign l := by simp [bulkSign, sumSign]; omega
theorem bulkSign_append (l r : List SignD) : bulkSign (l ++ r) = bulkSign l + bulkSign r := by simp [bulkSign, sumSign]; omega
theorem mkSign_append : ∀ (l r : List SignD) (m : Nat), mkSign (l ++ r) m = mkSign l m ++ mkSign r (m + bulkSign l)
  | [], r, m => by simp [mkSign, bulkSign, sumSign]
  | a :: l, r, m => by
    rw [List.cons_append, mkSign, mkSign, mkSign_append l r, bulkSign_cons, List.cons_append, show m + 2 + a.2.2.length + bulkSign l = m + (a.2.2.length + 2 + bulkSign l) by omega]
theorem mkSign_len : ∀ (l : List SignD) (m : Nat), (mkSign l m).length = l.length
  | [], _ => rfl
  | a :: l, m => by rw [mkSign, List.length_cons, mkSign_len l, List.length_cons]
theorem mkSign_take {l : List SignD} {k : Nat} {a : SignD} (h : l[k]? = some a) (m : Nat) : mkSign (l.take (k + 1)) m = mkSign (l.take k) m ++ [(((m + bulkSign (l.take k) : Nat) : Int), ((m + bulkSign (l.take k) : Nat) : Int) + 1, marks (m + bulkSign (l.take k) + 2) a.2.2.length)] := by
  rw [List.take_add_one, h, mkSign_append]; rfl
theorem bulkSign_take {l : List SignD} {k : Nat} {a : SignD} (h : l[k]? = some a) : bulkSign (l.take (k + 1)) = bulkSign (l.take k) + a.2.2.length + 2 := by
  rw [List.take_add_one, h, bulkSign_append]; simp [bulkSign, sumSign]; omega
theorem bulkSign_le (l : List SignD) (k : Nat) : bulkSign (l.take k) ≤ bulkSign l := by
  conv => rhs; rw [← List.take_append_drop k l, bulkSign_append]
  omega
theorem mkSign_at {l : List SignD} {k : Nat} {a : SignD} (h : l[k]? = some a) (m : Nat) : (mkSign l m)[k]? = some (((m + bulkSign (l.take k) : Nat) : Int), ((m + bulkSign (l.take k) : Nat) : Int) + 1, marks (m + bulkSign (l.take k) + 2) a.2.2.length) := by
  have hk := (List.getElem?_eq_some_iff.1 h).1
  conv => lhs; rw [← List.take_append_drop k l, drop_at h, mkSign_append]
  rw [List.getElem?_append_right (by rw [mkSign_len, List.length_take]; omega), mkSign_len, List.length_take, Nat.min_eq_left (by omega), Nat.sub_self]
  rfl
end Go.Proofs.YtflhoefocjmihaaGreatDoor

/- How AuthResult lies in memory, and the contracts of the laws' helpers on it (written by tools/codgen.py). -/
namespace Go.Proofs.YtflhoefocjmihaaGreatDoor
open Go.ChangeShapes Go.WideShapes Go.ChangeAt Go.RowKit

abbrev AuthResultD := Int × AuthD
def authResultC : Cod AuthResultD := prodC (intC .i64) authC
theorem authResult_rep {w : World} {a : AuthResultD} {vs : List Value} (h : authResultC.rep w a vs) : ∃ p2_1 q2_1 p2_4 q2_4, vs = [.int .i64 a.1, .slice p2_1 a.2.1.length q2_1, .int .i64 a.2.2.1.1, .int .i64 a.2.2.1.2.1, .int .i64 a.2.2.1.2.2, .int .i64 a.2.2.2.1, .slice p2_4 a.2.2.2.2.length q2_4] ∧ Rd w p2_1 q2_1 a.2.1 ∧ Rd w p2_4 q2_4 a.2.2.2.2 := by
  obtain ⟨us0, ts0, rfl, h0, h1⟩ := h
  have e0 : us0 = [Value.int .i64 _] := h0
  subst e0
  obtain ⟨p2_1, q2_1, p2_4, q2_4, rfl, r2_1, r2_4⟩ := auth_rep h1
  exact ⟨p2_1, q2_1, p2_4, q2_4, rfl, r2_1, r2_4⟩
theorem authResult_mk {w : World} {a : AuthResultD} {p2_1 : Option Addr} {q2_1 : Nat} {p2_4 : Option Addr} {q2_4 : Nat} (r2_1 : Rd w p2_1 q2_1 a.2.1) (r2_4 : Rd w p2_4 q2_4 a.2.2.2.2) : authResultC.rep w a [.int .i64 a.1, .slice p2_1 a.2.1.length q2_1, .int .i64 a.2.2.1.1, .int .i64 a.2.2.1.2.1, .int .i64 a.2.2.1.2.2, .int .i64 a.2.2.2.1, .slice p2_4 a.2.2.2.2.length q2_4] := ⟨[.int .i64 a.1], _, rfl, rfl, (auth_mk r2_1 r2_4)⟩
def authResultT (a : AuthResultD) : Nat := authT a.2
def authResultM (a : AuthResultD) (m : Nat) : AuthResultD := (a.1, authM a.2 m)

def authResultN (a : AuthResultD) : Nat := authN a.2
theorem authResultT_le (a : AuthResultD) : authResultT a ≤ 8 * authResultN a := by
  have h1 := authT_le a.2
  unfold authResultT authResultN
  omega






end Go.Proofs.YtflhoefocjmihaaGreatDoor

/- The contracts of the draws of chapter 3: keys, data, labels, contexts, numbers: within bounds, no more. -/
namespace Go.Proofs.YtflhoefocjmihaaGreatDoor
open Go.ChangeShapes Go.WideShapes Go.ChangeAt Go.RowKit



/-- A row that was drawn ahead of other draws. -/
theorem Own.draw {w w' : World} {B b : Nat} {v : Value} {bs : List UInt8} (h : Own w B v bs) (hg : w.grownBy w' (some b)) (hb : b < B) : Own w' B v bs :=
  h.other hg (fun k hk e => by have := h.ge k hk; simp at e; omega)




def labs : List (List UInt8) := [[100, 101, 114, 105, 118, 101, 100], [99, 32, 104, 115, 32, 116, 114, 97, 102, 102, 105, 99], [102, 105, 110, 105, 115, 104, 101, 100], [97], [], [120, 10], [97, 98, 99, 100, 101, 102, 103, 104, 105, 106, 107, 108, 109, 110, 111, 112, 113, 114, 115, 116, 117, 118, 119, 120, 121, 122, 97, 98, 99, 100, 101, 102, 103, 104, 105, 106, 107, 108, 109, 110, 111]]
def labsV : List Value := labs.map (fun l => .string (strB l))
theorem labsV_at {k : Nat} (h : k < 7) : ∃ l : List UInt8, labsV[k]? = some (.string (strB l)) ∧ l.length ≤ 41 := by
  have hl : k < labs.length := h
  refine ⟨labs[k], by simp [labsV, hl], ?_⟩
  have : ∀ x ∈ labs, x.length ≤ 41 := by unfold labs; decide
  exact this _ (List.getElem_mem hl)




end Go.Proofs.YtflhoefocjmihaaGreatDoor

/- The contracts of MixRound and of what it calls besides a round, in the specification and in the program: both answer mixCode and mixList, at every argument. -/
namespace Go.Proofs.YtflhoefocjmihaaGreatDoor
open Go.ChangeShapes Go.WideShapes Go.ChangeAt Go.RowKit

def isW (v : Int) : Bool := inB v 0 4294967295
def mixOk (l : List Int) (word key : Int) : Bool := l.all isW && isW word && isW key
def s8 (l : List Int) : S8 := ⟨(atI l 0).toNat, (atI l 1).toNat, (atI l 2).toNat, (atI l 3).toNat, (atI l 4).toNat, (atI l 5).toNat, (atI l 6).toNat, (atI l 7).toNat⟩
def mixCode (l : List Int) (word key : Int) : Int := if l.length = 8 then (if mixOk l word key then 0 else 3) else 1
def mixList (l : List Int) (word key : Int) : List Int := if l.length = 8 then (if mixOk l word key then (roundN (s8 l) word.toNat key.toNat).list.map Int.ofNat else []) else []
theorem mixList_len (l : List Int) (word key : Int) : (mixList l word key).length ≤ 8 := by
  unfold mixList; split
  · split <;> simp [S8.list]
  · simp
theorem isW_at {l : List Int} (h : l.all isW = true) (i : Nat) : 0 ≤ atI l i ∧ atI l i ≤ 4294967295 := by
  unfold atI
  rw [List.getD_eq_getElem?_getD]
  cases e : l[i]? with
  | none => simp
  | some x =>
    have h2 := (List.all_eq_true.1 h) x (List.mem_of_getElem? e)
    simpa [isW, inB] using h2
theorem all_of_at {l : List Int} (h : ∀ j, j < l.length → isW (atI l j) = true) : l.all isW = true := by
  rw [List.all_eq_true]
  intro x hx
  obtain ⟨i, hi, rfl⟩ := List.mem_iff_getElem.1 hx
  rw [← atI_get hi]; exact h i hi
theorem not_all_at {l : List Int} {j : Nat} (hj : j < l.length) (h : isW (atI l j) = false) : l.all isW = false := by
  rw [List.all_eq_false]
  exact ⟨l[j], List.getElem_mem hj, by rw [← atI_get hj, h]; simp⟩
theorem partI_arr (l : List Int) (k : Nat) (h : k < l.length) : (partI l l.length k).set k (.int .i64 (atI l k)) = partI l l.length (k + 1) := partI_set l k h

theorem i64_of_l {l : List Int} (h : l.length = 8) (ha : l.all isW = true) : (l.map i64z).toArray = (s8 l).i64 := by
  have e := fun i => Int.toNat_of_nonneg (isW_at ha i).1
  have e0 := e 0; have e1 := e 1; have e2 := e 2; have e3 := e 3; have e4 := e 4; have e5 := e 5; have e6 := e 6; have e7 := e 7
  unfold S8.i64 s8
  simp only [e0, e1, e2, e3, e4, e5, e6, e7]
  match l, h with
  | [a, b, c, d, e, f, g, q], _ => rfl
theorem s8_ok {l : List Int} (ha : l.all isW = true) : (s8 l).ok := by
  have e : ∀ i, (atI l i).toNat < 4294967296 := fun i => by have := isW_at ha i; omega
  exact ⟨e 0, e 1, e 2, e 3, e 4, e 5, e 6, e 7⟩
theorem isW_nat {v : Int} (h : isW v = true) : ∃ n : Nat, v = n ∧ n < 4294967296 := by
  simp [isW, inB] at h
  exact ⟨v.toNat, by omega, by omega⟩
theorem l2Round_s (s : S8) (word key : Nat) (w : World) (h : s.ok) (hw : word < 4294967296) (hk : key < 4294967296) :
    Calls Tryz.prog 145 #[.agg s.i64, .int .i64 word, .int .i64 key] w fun r w' => r = .returned (.agg (roundN s word key).i64) ∧ Below w.heap.size w w' :=
  l2Round_c s.a s.b s.c s.d s.e s.f s.g s.h word key w h.1 h.2.1 h.2.2.1 h.2.2.2.1 h.2.2.2.2.1 h.2.2.2.2.2.1 h.2.2.2.2.2.2.1 h.2.2.2.2.2.2.2 hw hk
theorem mixed_s (s : S8) (word key : Nat) (w : World) (h : s.ok) :
    Calls Tryz.prog 153 #[.agg s.u32, .int .u32 word, .int .u32 key] w fun r w' => r = .returned (.agg (roundN s word key).u32) ∧ Below w.heap.size w w' :=
  mixed_c s.a s.b s.c s.d s.e s.f s.g s.h word key w h.1 h.2.1 h.2.2.1 h.2.2.2.2.1 h.2.2.2.2.2.1 h.2.2.2.2.2.2.1


def u32z (z : Int) : Value := .int .u32 z
theorem u32z_at {l : List Int} {i : Nat} (h : i < l.length) : (l.map u32z)[i]? = some (.int .u32 (atI l i)) := by simp [u32z, atI, h]
theorem u32_of_l {l : List Int} (h : l.length = 8) (ha : l.all isW = true) : (l.map u32z).toArray = (s8 l).u32 := by
  have e := fun i => Int.toNat_of_nonneg (isW_at ha i).1
  have e0 := e 0; have e1 := e 1; have e2 := e 2; have e3 := e 3; have e4 := e 4; have e5 := e 5; have e6 := e 6; have e7 := e 7
  unfold S8.u32 s8
  simp only [e0, e1, e2, e3, e4, e5, e6, e7]
  match l, h with
  | [a, b, c, d, e, f, g, q], _ => rfl



theorem allW_nat {ws : List Nat} (h : Words ws) : (ws.map Int.ofNat).all isW = true := by
  rw [List.all_eq_true]
  intro x hx
  obtain ⟨n, hn, rfl⟩ := List.mem_map.1 hx
  have := h n hn
  simp [isW, inB]
  omega
theorem S8.words {s : S8} (h : s.ok) : Words s.list := by
  intro x hx
  simp only [S8.list, List.mem_cons, List.not_mem_nil, or_false] at hx
  obtain ⟨h1, h2, h3, h4, h5, h6, h7, h8⟩ := h
  rcases hx with rfl | rfl | rfl | rfl | rfl | rfl | rfl | rfl <;> assumption

end Go.Proofs.YtflhoefocjmihaaGreatDoor

