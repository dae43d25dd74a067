/- What the laws ask of lists of certificates: how great they are (szCertS), and (where a law has it) their marks. -/
import Derived.Test.YtdbpnibcblelbabGreatDoorCertC
import Derived.Test.YtdbpnibcblelbabGreatDoorJoint5
import Derived.Test.YtdbpnibcblelbabGreatDoorJoint9
import Derived.Test.YtdbpnibcblelbabGreatDoorJoint4
import Derived.Test.YtdbpnibcblelbabGreatDoorJoint8
import Derived.Deep.AppendLies
namespace Go.Proofs.YtdbpnibcblelbabGreatDoor
open Go.ChangeShapes Go.WideShapes Go.ChangeAt Go.RowKit

theorem szCertS_b (l : List CertD) (p : Option Addr) (q : Nat) (left : Int) (w : World) (hr : RdL certC w p q l) (h0 : 0 ≤ left) (h1 : left ≤ 1048576) :
    Calls Tryz.prog 4 #[.slice p l.length q, .int .i64 left] w fun e w' => e = .returned (.int .i64 (szR l.length left)) ∧ Below w.heap.size w w' := by
  refine Calls.mono (szCertS_c p q l.length left w hr.1 hr.2.1 h0 h1) ?_
  rintro e w' ⟨rfl, rfl⟩
  exact ⟨rfl, Below.refl _ _⟩
set_option maxRecDepth 4000 in
set_option maxHeartbeats 1000000 in
theorem markCertS_c (e0 : TypeId) (l : List CertD) (B : Nat) (v : Value) (xs : List Value) (fp : List Nat) (m : Nat) (w : World) (ho : OwnL e0 certC w B v l xs fp) (hm : m + 3 * l.length ≤ 1000000000) :
    Calls Tryz.prog 16 #[v, .int .i64 m] w fun e w' => e = .returned (.int .i64 ((m + 3 * l.length : Nat) : Int)) ∧ True ∧ Only (v.ownBlock.toList ++ fp) w w' := by
  obtain ⟨p, q, rfl, hrd⟩ := ho.rd
  have hq1 : l.length ≤ q := hrd.1
  have hq2 : q ≤ 2 ^ 63 - 1 := hrd.2.1
  have HM : Hid (m + 3 * l.length ≤ 1000000000) := hm
  have hrow : w.ownsRow B e0 3 (.slice p l.length q) l.length xs := ho.row
  have HXL : Hid (xs.length = l.length * 3) := hrow.1
  clear hm hrd ho
  go_enter Tryz.func16, Tryz.ntmps16
  go_wp2_with fail
  go_loopw [1, 5] (fun c i wr => ∃ (k : Nat) (ys : List Value), k ≤ l.length ∧ i = .int .i64 k ∧ c = .int .i64 ((m + 3 * k : Nat) : Int) ∧ ys.length = l.length * 3 ∧ wr.ownsRow B e0 3 (.slice p l.length q) l.length ys ∧ Only ((Value.slice p l.length q).ownBlock.toList ++ fp) w wr)
    (fun _ i _ => l.length - (intOf i).toNat)
  case atStart => exact ⟨0, xs, Nat.zero_le _, rfl, by simp, HXL.out, hrow, Only.refl _ _⟩
  case round =>
    clear hrow HXL
    obtain ⟨k, ys, hk, rfl, rfl, hyl, hrow, hon⟩ := hrel
    by_cases hlt : k < l.length
    · have hkI : (k : Int) < (l.length : Int) := by omega
      have hgf : ∃ g, p = some ⟨g, 0, none⟩ := by
        rcases hrow.2 with ⟨h1, h2⟩ | ⟨g, c, cur, h1, -⟩
        · omega
        · simp at h1; exact ⟨g, h1.1⟩
      obtain ⟨g, rfl⟩ := hgf
      have HYL : Hid (ys.length = l.length * 3) := hyl
      obtain ⟨y0, hy0⟩ : ∃ y, ys[k * 3]? = some y := ⟨ys[k * 3]'(by omega), by rw [List.getElem?_eq_getElem]⟩
      obtain ⟨y1, hy1⟩ : ∃ y, ys[k * 3 + 1]? = some y := ⟨ys[k * 3 + 1]'(by omega), by rw [List.getElem?_eq_getElem]⟩
      obtain ⟨y2, hy2⟩ : ∃ y, ys[k * 3 + 2]? = some y := ⟨ys[k * 3 + 2]'(by omega), by rw [List.getElem?_eq_getElem]⟩
      have c0 := (World.ownsRow.cellAt hrow (k * 3) (by omega)).trans hy0
      have c1 := (World.ownsRow.cellAt hrow (k * 3 + 1) (by omega)).trans hy1
      have c2 := (World.ownsRow.cellAt hrow (k * 3 + 2) (by omega)).trans hy2
      have fz := World.ownsRow.frozenAt hrow
      generalize hMk : m + 3 * k = mk at *
      have HMk : Hid (m + 3 * k = mk) := hMk
      clear hMk hyl hy0 hy1 hy2
      have hmkI : (mk : Int) ≤ 1000000000 := by have := HM.out; have := HMk.out; omega
      have R1 := World.ownsRow.stored hrow (k * 3) (.int .i64 (mk : Int))
      have R2 := World.ownsRow.stored R1.1 (k * 3 + 1) (.int .i64 ((mk : Int) + 1))
      have R3 := World.ownsRow.stored R2.1 (k * 3 + 2) (.int .i64 ((mk : Int) + 1 + 1))
      have hon2 := hon.trans (((Only.grown R1.2).more (fun j hj => List.mem_append_left fp (by simpa [Value.ownBlock] using hj))).trans (((Only.grown R2.2).more (fun j hj => List.mem_append_left fp (by simpa [Value.ownBlock] using hj))).trans ((Only.grown R3.2).more (fun j hj => List.mem_append_left fp (by simpa [Value.ownBlock] using hj)))))
      have R31 := R3.1
      have HE : Hid ((mk : Int) + 1 + 1 + 1 = ((m + 3 * (k + 1) : Nat) : Int)) := by show _ = _; have := HMk.out; omega
      have HYL2 : Hid ((((ys.set (k * 3) (.int .i64 (mk : Int))).set (k * 3 + 1) (.int .i64 ((mk : Int) + 1))).set (k * 3 + 2) (.int .i64 ((mk : Int) + 1 + 1))).length = l.length * 3) := by show _ = _; rw [List.length_set, List.length_set, List.length_set]; exact HYL.out
      clear hrow hon R1 R2 R3
      go_wp2_with fail
      go_roundw
      case rel => exact ⟨k + 1, _, by omega, by go_num, by rw [← HE.out], HYL2.out, R31, hon2⟩
      case measure => simp [intOf]; omega
    · have e : k = l.length := by omega
      subst e
      go_wp2_with fail
      go_ret
      exact ⟨rfl, trivial, hon⟩
end Go.Proofs.YtdbpnibcblelbabGreatDoor

/- The contracts of MixRound and of what it calls besides a round, in the specification and in the program: both answer mixCode and mixList, at every argument. -/
namespace Go.Proofs.YtdbpnibcblelbabGreatDoor
open Go.ChangeShapes Go.WideShapes Go.ChangeAt Go.RowKit

def isW (v : Int) : Bool := inB v 0 4294967295
def mixOk (l : List Int) (word key : Int) : Bool := l.all isW && isW word && isW key
def s8 (l : List Int) : S8 := ⟨(atI l 0).toNat, (atI l 1).toNat, (atI l 2).toNat, (atI l 3).toNat, (atI l 4).toNat, (atI l 5).toNat, (atI l 6).toNat, (atI l 7).toNat⟩
def mixCode (l : List Int) (word key : Int) : Int := if l.length = 8 then (if mixOk l word key then 0 else 3) else 1
def mixList (l : List Int) (word key : Int) : List Int := if l.length = 8 then (if mixOk l word key then (roundN (s8 l) word.toNat key.toNat).list.map Int.ofNat else []) else []
theorem mixList_len (l : List Int) (word key : Int) : (mixList l word key).length ≤ 8 := by
  unfold mixList; split
  · split <;> simp [S8.list]
  · simp
theorem isW_at {l : List Int} (h : l.all isW = true) (i : Nat) : 0 ≤ atI l i ∧ atI l i ≤ 4294967295 := by
  unfold atI
  rw [List.getD_eq_getElem?_getD]
  cases e : l[i]? with
  | none => simp
  | some x =>
    have h2 := (List.all_eq_true.1 h) x (List.mem_of_getElem? e)
    simpa [isW, inB] using h2
theorem all_of_at {l : List Int} (h : ∀ j, j < l.length → isW (atI l j) = true) : l.all isW = true := by
  rw [List.all_eq_true]
  intro x hx
  obtain ⟨i, hi, rfl⟩ := List.mem_iff_getElem.1 hx
  rw [← atI_get hi]; exact h i hi
theorem not_all_at {l : List Int} {j : Nat} (hj : j < l.length) (h : isW (atI l j) = false) : l.all isW = false := by
  rw [List.all_eq_false]
  exact ⟨l[j], List.getElem_mem hj, by rw [← atI_get hj, h]; simp⟩
theorem partI_arr (l : List Int) (k : Nat) (h : k < l.length) : (partI l l.length k).set k (.int .i64 (atI l k)) = partI l l.length (k + 1) := partI_set l k h

theorem i64_of_l {l : List Int} (h : l.length = 8) (ha : l.all isW = true) : (l.map i64z).toArray = (s8 l).i64 := by
  have e := fun i => Int.toNat_of_nonneg (isW_at ha i).1
  have e0 := e 0; have e1 := e 1; have e2 := e 2; have e3 := e 3; have e4 := e 4; have e5 := e 5; have e6 := e 6; have e7 := e 7
  unfold S8.i64 s8
  simp only [e0, e1, e2, e3, e4, e5, e6, e7]
  match l, h with
  | [a, b, c, d, e, f, g, q], _ => rfl
theorem s8_ok {l : List Int} (ha : l.all isW = true) : (s8 l).ok := by
  have e : ∀ i, (atI l i).toNat < 4294967296 := fun i => by have := isW_at ha i; omega
  exact ⟨e 0, e 1, e 2, e 3, e 4, e 5, e 6, e 7⟩
theorem isW_nat {v : Int} (h : isW v = true) : ∃ n : Nat, v = n ∧ n < 4294967296 := by
  simp [isW, inB] at h
  exact ⟨v.toNat, by omega, by omega⟩
theorem l2Round_s (s : S8) (word key : Nat) (w : World) (h : s.ok) (hw : word < 4294967296) (hk : key < 4294967296) :
    Calls Tryz.prog 93 #[.agg s.i64, .int .i64 word, .int .i64 key] w fun r w' => r = .returned (.agg (roundN s word key).i64) ∧ Below w.heap.size w w' :=
  l2Round_c s.a s.b s.c s.d s.e s.f s.g s.h word key w h.1 h.2.1 h.2.2.1 h.2.2.2.1 h.2.2.2.2.1 h.2.2.2.2.2.1 h.2.2.2.2.2.2.1 h.2.2.2.2.2.2.2 hw hk
theorem mixed_s (s : S8) (word key : Nat) (w : World) (h : s.ok) :
    Calls Tryz.prog 120 #[.agg s.u32, .int .u32 word, .int .u32 key] w fun r w' => r = .returned (.agg (roundN s word key).u32) ∧ Below w.heap.size w w' :=
  mixed_c s.a s.b s.c s.d s.e s.f s.g s.h word key w h.1 h.2.1 h.2.2.1 h.2.2.2.2.1 h.2.2.2.2.2.1 h.2.2.2.2.2.2.1


def u32z (z : Int) : Value := .int .u32 z
theorem u32z_at {l : List Int} {i : Nat} (h : i < l.length) : (l.map u32z)[i]? = some (.int .u32 (atI l i)) := by simp [u32z, atI, h]
theorem u32_of_l {l : List Int} (h : l.length = 8) (ha : l.all isW = true) : (l.map u32z).toArray = (s8 l).u32 := by
  have e := fun i => Int.toNat_of_nonneg (isW_at ha i).1
  have e0 := e 0; have e1 := e 1; have e2 := e 2; have e3 := e 3; have e4 := e 4; have e5 := e 5; have e6 := e 6; have e7 := e 7
  unfold S8.u32 s8
  simp only [e0, e1, e2, e3, e4, e5, e6, e7]
  match l, h with
  | [a, b, c, d, e, f, g, q], _ => rfl



theorem allW_nat {ws : List Nat} (h : Words ws) : (ws.map Int.ofNat).all isW = true := by
  rw [List.all_eq_true]
  intro x hx
  obtain ⟨n, hn, rfl⟩ := List.mem_map.1 hx
  have := h n hn
  simp [isW, inB]
  omega
theorem S8.words {s : S8} (h : s.ok) : Words s.list := by
  intro x hx
  simp only [S8.list, List.mem_cons, List.not_mem_nil, or_false] at hx
  obtain ⟨h1, h2, h3, h4, h5, h6, h7, h8⟩ := h
  rcases hx with rfl | rfl | rfl | rfl | rfl | rfl | rfl | rfl <;> assumption

end Go.Proofs.YtdbpnibcblelbabGreatDoor

