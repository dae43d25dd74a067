/- The pieces of data as the program's iterator tells them, one by one, each with its code, and that what CutRecords answers is told by them. Plain mathematics, no program in it. No conditions but those in each line. -/
import Derived.Test.YtdemfbbjdnjolaaGreatDoorJoint16
import Derived.Test.YtdemfbbjdnjolaaGreatDoorPick
import Derived.RangeFuncNested
import Derived.RangeFuncBound
import Derived.RangeFuncCalls
import Derived.RangeFuncLeaves
import Derived.Shelf.Abstract
import Derived.Shelf.RegionOpen
import Derived.WalkKit
import Derived.OwnWalkIn
import Derived.TacticsInMore
import Derived.LoopNIn
import Derived.LoopIn
namespace Go.Proofs.YtdemfbbjdnjolaaGreatDoor
open Go.RowKit

/-- The pieces from a place on, behind so many others. -/
def itemsR (data : List UInt8) (at_ k : Nat) : List (Int × List UInt8) :=
  if at_ < data.length then
    if data.length - at_ < 5 then [(5, [])]
    else if 240 < numR data at_ then [(3, [])]
    else if data.length - at_ - 5 < numR data at_ then [(5, [])]
    else if k = 8 then [(2, [])]
    else (0, (data.drop at_).take (5 + numR data at_)) :: itemsR data (at_ + 5 + numR data at_) (k + 1)
  else []
termination_by data.length - at_
theorem itemsR_end {data : List UInt8} {at_ k : Nat} (h : ¬ at_ < data.length) : itemsR data at_ k = [] := by rw [itemsR, if_neg h]
theorem itemsR_a {data : List UInt8} {at_ k : Nat} (h : at_ < data.length) (h1 : data.length - at_ < 5) : itemsR data at_ k = [(5, [])] := by rw [itemsR, if_pos h, if_pos h1]
theorem itemsR_b {data : List UInt8} {at_ k : Nat} (h : at_ < data.length) (h1 : ¬ data.length - at_ < 5) (h2 : 240 < numR data at_) : itemsR data at_ k = [(3, [])] := by rw [itemsR, if_pos h, if_neg h1, if_pos h2]
theorem itemsR_c {data : List UInt8} {at_ k : Nat} (h : at_ < data.length) (h1 : ¬ data.length - at_ < 5) (h2 : ¬ 240 < numR data at_) (h3 : data.length - at_ - 5 < numR data at_) : itemsR data at_ k = [(5, [])] := by rw [itemsR, if_pos h, if_neg h1, if_neg h2, if_pos h3]
theorem itemsR_d {data : List UInt8} {at_ k : Nat} (h : at_ < data.length) (h1 : ¬ data.length - at_ < 5) (h2 : ¬ 240 < numR data at_) (h3 : ¬ data.length - at_ - 5 < numR data at_) (h4 : k = 8) : itemsR data at_ k = [(2, [])] := by rw [itemsR, if_pos h, if_neg h1, if_neg h2, if_neg h3, if_pos h4]
theorem itemsR_next {data : List UInt8} {at_ k : Nat} (h : at_ < data.length) (h1 : ¬ data.length - at_ < 5) (h2 : ¬ 240 < numR data at_) (h3 : ¬ data.length - at_ - 5 < numR data at_) (h4 : ¬ k = 8) : itemsR data at_ k = (0, (data.drop at_).take (5 + numR data at_)) :: itemsR data (at_ + 5 + numR data at_) (k + 1) := by
  conv => lhs; rw [itemsR, if_pos h, if_neg h1, if_neg h2, if_neg h3, if_neg h4]
/-- One step of it: the first piece's code, its bytes, and what is behind it. -/
def codeR (data : List UInt8) (at_ k : Nat) : Int := if data.length - at_ < 5 then 5 else if 240 < numR data at_ then 3 else if data.length - at_ - 5 < numR data at_ then 5 else if k = 8 then 2 else 0
theorem itemsR_bad {data : List UInt8} {at_ k : Nat} (h : at_ < data.length) (hc : codeR data at_ k ≠ 0) : itemsR data at_ k = [(codeR data at_ k, [])] := by
  unfold codeR at *
  by_cases h1 : data.length - at_ < 5
  · rw [itemsR_a h h1, if_pos h1]
  · rw [if_neg h1] at hc ⊢
    by_cases h2 : 240 < numR data at_
    · rw [itemsR_b h h1 h2, if_pos h2]
    · rw [if_neg h2] at hc ⊢
      by_cases h3 : data.length - at_ - 5 < numR data at_
      · rw [itemsR_c h h1 h2 h3, if_pos h3]
      · rw [if_neg h3] at hc ⊢
        by_cases h4 : k = 8
        · rw [itemsR_d h h1 h2 h3 h4, if_pos h4]
        · rw [if_neg h4] at hc; exact absurd rfl hc
theorem itemsR_good {data : List UInt8} {at_ k : Nat} (h : at_ < data.length) (hc : codeR data at_ k = 0) :
    itemsR data at_ k = (0, (data.drop at_).take (5 + numR data at_)) :: itemsR data (at_ + 5 + numR data at_) (k + 1) ∧ at_ + 5 + numR data at_ ≤ data.length ∧ numR data at_ ≤ 240 ∧ k ≠ 8 := by
  unfold codeR at hc
  by_cases h1 : data.length - at_ < 5
  · rw [if_pos h1] at hc; exact absurd hc (by decide)
  · rw [if_neg h1] at hc
    by_cases h2 : 240 < numR data at_
    · rw [if_pos h2] at hc; exact absurd hc (by decide)
    · rw [if_neg h2] at hc
      by_cases h3 : data.length - at_ - 5 < numR data at_
      · rw [if_pos h3] at hc; exact absurd hc (by decide)
      · rw [if_neg h3] at hc
        by_cases h4 : k = 8
        · rw [if_pos h4] at hc; exact absurd hc (by decide)
        · exact ⟨itemsR_next h h1 h2 h3 h4, by omega, by omega, h4⟩
/-- Where every piece is whole the answer is the pieces. -/
theorem cut_all (data : List UInt8) : ∀ (m at_ : Nat) (out ks : List (List UInt8)), data.length - at_ ≤ m → out.length ≤ 8 → itemsR data at_ out.length = ks.map (fun b => ((0 : Int), b)) → cutR data at_ out = (0, out ++ ks) := by
  intro m
  induction m with
  | zero =>
    intro at_ out ks hm ho h
    rw [itemsR_end (by omega)] at h
    have : ks = [] := by cases ks with | nil => rfl | cons a b => simp at h
    rw [cutR_end (by omega), this, List.append_nil]
  | succ m ih =>
    intro at_ out ks hm ho h
    by_cases hl : at_ < data.length
    · by_cases hc : codeR data at_ out.length = 0
      · obtain ⟨e, h1, h2, h4⟩ := itemsR_good hl hc
        rw [e] at h
        cases ks with
        | nil => simp at h
        | cons b ks =>
          simp only [List.map_cons, List.cons.injEq, Prod.mk.injEq, true_and] at h
          obtain ⟨hb, ht⟩ := h
          rw [cutR_next hl (by omega) (by omega) (by omega) (by omega), hb, ih _ (out ++ [b]) ks (by omega) (by rw [List.length_append, List.length_singleton]; omega) (by rw [List.length_append, List.length_singleton]; exact ht)]
          simp
      · rw [itemsR_bad hl hc] at h
        cases ks with
        | nil => simp at h
        | cons b ks => simp only [List.map_cons, List.cons.injEq, Prod.mk.injEq] at h; exact absurd h.1.1 hc
    · rw [itemsR_end hl] at h
      have : ks = [] := by cases ks with | nil => rfl | cons a b => simp at h
      rw [cutR_end hl, this, List.append_nil]
/-- Where a piece has a code that is the answer. -/
theorem cut_bad (data : List UInt8) : ∀ (m at_ : Nat) (out ks : List (List UInt8)) (c : Int), data.length - at_ ≤ m → out.length ≤ 8 → c ≠ 0 → ks.map (fun b => ((0 : Int), b)) ++ [(c, [])] <+: itemsR data at_ out.length → cutR data at_ out = (c, []) := by
  intro m
  induction m with
  | zero =>
    intro at_ out ks c hm ho hc h
    rw [itemsR_end (by omega)] at h
    exact absurd (List.prefix_nil.1 h) (by simp)
  | succ m ih =>
    intro at_ out ks c hm ho hc0 h
    by_cases hl : at_ < data.length
    · by_cases hc : codeR data at_ out.length = 0
      · obtain ⟨e, h1, h2, h4⟩ := itemsR_good hl hc
        rw [e] at h
        cases ks with
        | nil =>
          simp only [List.map_nil, List.nil_append, List.cons_prefix_cons, Prod.mk.injEq] at h
          exact absurd h.1.1 hc0
        | cons b ks =>
          simp only [List.map_cons, List.cons_append, List.cons_prefix_cons, Prod.mk.injEq, true_and] at h
          obtain ⟨hb, ht⟩ := h
          rw [cutR_next hl (by omega) (by omega) (by omega) (by omega), ← hb]
          exact ih _ (out ++ [b]) ks c (by omega) (by rw [List.length_append, List.length_singleton]; omega) hc0 (by rw [List.length_append, List.length_singleton]; exact ht)
      · rw [itemsR_bad hl hc] at h
        cases ks with
        | nil =>
          simp only [List.map_nil, List.nil_append, List.cons_prefix_cons, Prod.mk.injEq, and_true] at h
          have hcc := h.1
          unfold codeR at hcc
          by_cases h1 : data.length - at_ < 5
          · rw [cutR_a hl h1, hcc, if_pos h1]
          · rw [if_neg h1] at hcc
            by_cases h2 : 240 < numR data at_
            · rw [cutR_b hl h1 h2, hcc, if_pos h2]
            · rw [if_neg h2] at hcc
              by_cases h3 : data.length - at_ - 5 < numR data at_
              · rw [cutR_c hl h1 h2 h3, hcc, if_pos h3]
              · rw [if_neg h3] at hcc
                by_cases h4 : out.length = 8
                · rw [cutR_d hl h1 h2 h3 (by omega), hcc, if_pos h4]
                · rw [if_neg h4] at hcc; exact absurd hcc hc0
        | cons b ks =>
          simp only [List.map_cons, List.cons_append, List.cons_prefix_cons, Prod.mk.injEq] at h
          exact absurd h.1.1.symm hc
    · rw [itemsR_end hl] at h
      exact absurd (List.prefix_nil.1 h) (by simp)
end Go.Proofs.YtdemfbbjdnjolaaGreatDoor

/- Regions that draw their order in a round of a loop over an iterator: what is walked outside a round is walked in one, where no operation defers a call. Beside Pick.lean. No program in it. -/
namespace Go.Proofs.YtdemfbbjdnjolaaGreatDoor
open Go Go.RowKit

def plainO (o : Oper) : Bool := match o.op with
  | .defer _ => false
  | _ => true
theorem plainO_spec {o : Oper} (h : plainO o = true) : ∀ c, o.op ≠ .defer c := fun c e => by simp [plainO, e] at h

section
variable {P : Program} {ops : Array Oper} {md : Region.Mode} {Q' : Exit → Act → World → Prop}

theorem rowsIn_of {l n : Nat} {row : String} {args : Array Value} {w : World} {R : Value → World → Prop} (h : Rows P row args w R) : RowsIn (Fence.wide.inRound l) n P row args w R := fun c cs _ =>
  let ⟨v, w', r, s⟩ := h c cs
  ⟨v, w', r, stepsIn_wide.2 s⟩
theorem wpIn_of_wp {l n : Nat} {o : Oper} {a : Act} {w : World} {K : Act → World → Prop} (hp : plainO o = true) (h : o.wp P a w K Q') : o.wpIn (Fence.wide.inRound l) n P a w K Q' := by
  unfold Oper.wpIn
  refine ⟨fun _ _ => trivial, ?_⟩
  rw [Oper.semAt_plain _ _ _ (plainO_spec hp)]
  unfold Oper.wp at h
  generalize (execOp a.eval o).run P w = r at *
  cases r with
  | ok x w' =>
    cases x <;> simp only [Oper.upon, Oper.uponIn] at h ⊢ <;>
      first
        | exact h
        | exact ⟨fun e => by simp [Fence.wide, Fence.inRound] at e, CallsIn.inRound l (callsIn_wide.2 h)⟩
        | exact ⟨fun e => by simp [Fence.wide, Fence.inRound] at e, rowsIn_of h⟩
  | halt x w' => cases x <;> simp only [Oper.upon, Oper.uponIn] at h ⊢ <;> exact h
theorem wpAnyIn_of_wpAny {l n : Nat} (hp : ops.toList.all plainO = true) (hQ : ¬ LetsOut Q') : ∀ (fuel : Nat) (L : Array Bool) (a : Act) (w : World), wpAny P md ops Q' fuel L a w → wpAnyIn (Fence.wide.inRound l) n P md ops Q' fuel L a w
  | 0, _, _, _, h => h
  | fuel + 1, L, a, w, ⟨h0, h1⟩ => ⟨h0, fun i hi => by
    have h := h1 i hi
    unfold wpOp at h
    unfold wpOpIn
    cases ho : ops[i]? with
    | none =>
      simp only [ho] at h
      exact wpAnyIn_of_wpAny hp hQ fuel _ _ _ h
    | some o =>
      simp only [ho] at h ⊢
      have hpo : plainO o = true := (List.all_eq_true.1 hp) o (by rw [Array.mem_toList_iff]; exact Array.mem_of_getElem? ho)
      split
      · rename_i hw
        rw [if_pos hw] at h
        rcases h with h | h
        · exact Oper.wpIn_mono (fun a' w' hh => wpAnyIn_of_wpAny hp hQ fuel _ _ _ hh) (wpIn_of_wp hpo h)
        · exact absurd h.2 hQ
      · rename_i hw
        rw [if_neg hw] at h
        exact ⟨fun _ _ => trivial, wpAnyIn_of_wpAny hp hQ fuel _ _ _ h⟩⟩
/-- What is left of a region's ways out where it runs to its end. -/
def Thro (Q : Exit → Act → World → Prop) : Exit → Act → World → Prop := fun e a w => e = .normal ∧ Q .normal a w
theorem thro_out (Q : Exit → Act → World → Prop) : ¬ LetsOut (Thro Q) := fun ⟨_, _, h⟩ => by cases h.1
theorem wpIn_region_pick {id l n : Nat} {a : Act} {w : World} (is : List Nat) (last k m : Nat) (hk : last = is.length + k) (hn : ops.size = last + m) (hm : P.follows .mixedOrders = true) (hs : Region.noSelect ops = true) (hlast : waitsT .any ops last = true) (hB : okSeq .any ops last (Array.replicate ops.size false) is = true) (hp : (opsAt ops is).all plainB = true) (hd : ops.toList.all plainO = true)
    (h : wpQuiet P ops (fun w' => ∃ s : HW w, w' = s.w) (fun a' => wpM P .any ops (Thro Q') last m k (setAll (Array.replicate ops.size false) is) a' w) (opsAt ops is) a) : (Code.region id ops true).wpIn (Fence.wide.inRound l) n P Q' a w := by
  have h1 := wpM_pick (Q' := Thro Q') (m := m) hlast hs k is (Array.replicate ops.size false) a hB hp h
  refine wpIn_mono (Q := Thro Q') (wpIn_region_any hm (wpAnyIn_of_wpAny hd (thro_out Q') _ _ _ _ ?_)) (fun e a w h => by obtain ⟨rfl, h⟩ := h; exact h)
  have h2 := wpAny_of_M (is.length + k) _ a w { w with drawn := w.drawn + 1 } ⟨⟨w.drew, (Below.refl _ _).drew⟩, rfl⟩ h1
  rw [← hk, ← hn] at h2
  exact h2
end
end Go.Proofs.YtdemfbbjdnjolaaGreatDoor

/- The iterator of CutRecords of the program: for every loop body that keeps what lay it tells the pieces of the data one by one, each with its code. What was there stays. -/
namespace Go.Proofs.YtdemfbbjdnjolaaGreatDoor
open Go.ChangeShapes Go.WideShapes Go.ChangeAt Go.RowKit Go.Shelf

attribute [local go_sem] Oper.semAt_some

/-- One piece as the iterator tells it: where it lies, its bytes and its code. -/
structure Pce (w : World) where
  p : Option Addr
  q : Nat
  bs : List UInt8
  c : Int
  rd : Rd w p q bs
  ok : (c = 0 ∧ bs.length ≤ 245) ∨ ((c == 0) = false ∧ bs = [] ∧ p = none ∧ q = 0)
def Pce.encs {w : World} (x : Pce w) : Array Value := #[.slice x.p x.bs.length x.q, .int .i64 x.c]
def Pce.key {w : World} (x : Pce w) : Int × List UInt8 := (x.c, x.bs)
theorem rd_no (w : World) : Rd w none 0 [] := ⟨Nat.le_refl _, by unfold maxLen; decide, fun _ => rfl, fun hp => by simp at hp⟩
def slN : Value → Nat
  | .slice _ n _ => n
  | _ => 0
theorem codeB_R (data : List UInt8) (at_ k : Nat) (h : at_ ≤ data.length) : codeB (data.drop at_) k = codeR data at_ k := by
  unfold codeB codeR numB numR
  rw [List.drop_drop, List.length_drop]
  by_cases h1 : data.length - at_ < 5
  · rw [if_pos h1, if_pos h1]
  · rw [if_neg h1, if_neg h1]
    by_cases h2 : 240 < getB ((data.drop (at_ + 3)).take 2)
    · rw [if_pos h2, if_pos h2]
    · rw [if_neg h2, if_neg h2]
      by_cases h3 : data.length - at_ - 5 < getB ((data.drop (at_ + 3)).take 2)
      · rw [if_pos h3, if_pos (by omega)]
      · rw [if_neg h3, if_neg (by omega)]
theorem numB_R (data : List UInt8) (at_ : Nat) : numB (data.drop at_) = numR data at_ := by unfold numB numR; rw [List.drop_drop]
set_option maxRecDepth 100000 in
set_option maxHeartbeats 2000000 in
theorem recordsIn1_c (n l Bd : Nat) (w : World) (p : Option Addr) (q : Nat) (data : List UInt8) (hr : Rd w p q data) (hd : data.length ≤ 600) (J Jx : List (Pce w) → World → Prop) (W : World) (hJ : AbidesFrom W.heap.size J)
    (hY : ∀ pre x W1, J pre W1 → pre.length < 9 → YieldAt Fence.wide (n - 1) Tryz.prog l x.encs W1 fun e W' =>
      (e = .returned (.bool true) ∧ J (pre ++ [x]) W' ∧ Below w.heap.size W1 W') ∨ (e = .returned (.bool false) ∧ Jx (pre ++ [x]) W'))
    (hBd : W.cell? ⟨Bd, 0, none⟩ = some (.slice p data.length q)) (hW : Below w.heap.size w W) (h0 : J [] W) :
    CallsIn Fence.wide n Tryz.prog 67 #[.func (.yield l) #[] #[], .pointer (some ⟨Bd, 0, none⟩)] W fun e W' => (∃ v, e = .returned v) ∧
      ((∃ xs : List (Pce w), xs.map Pce.key = itemsR data 0 0 ∧ J xs W') ∨ (∃ pre : List (Pce w), pre.map Pce.key <+: itemsR data 0 0 ∧ Jx pre W')) := by
  have HR : Hid (Rd w p q data) := hr
  clear hr
  refine callsIn_of_wp Tryz.func67 rfl trivial ?_ rfl
  simp only [Tryz.ntmps67, List.size_toArray, List.length_cons, List.length_nil, Nat.reduceAdd, Nat.reduceSub, Array.replicate_succ, Array.replicate_zero, List.push_toArray, List.append_toArray, List.nil_append, List.cons_append]
  gi_wp2
  gi_loopw [3, 4] (fun r i wr => ∃ (pre : List (Pce w)) (at_ k : Nat) (pr : Option Addr) (qr : Nat), i = .int .i64 k ∧ r = .slice pr (data.length - at_) qr ∧ at_ ≤ data.length ∧ k ≤ 8 ∧ pre.length = k ∧ itemsR data 0 0 = pre.map Pce.key ++ itemsR data at_ k ∧ Rd w pr qr (data.drop at_) ∧ J pre wr ∧ Below w.heap.size w wr)
    (fun r _ _ => slN r)
  case atStart => exact ⟨[], 0, 0, p, q, rfl, rfl, Nat.zero_le _, by decide, rfl, rfl, by simpa using HR.out, h0, hW⟩
  case round =>
    obtain ⟨pre, at_, k, pr, qr, rfl, rfl, hat, hk, hpl, hit, hrd, hJs, hB⟩ := hrel
    have hdl : (data.drop at_).length = data.length - at_ := List.length_drop
    have hq1 : data.length - at_ ≤ qr := by rw [← hdl]; exact hrd.1
    have hq2 : qr ≤ 2 ^ 63 - 1 := hrd.2.1
    by_cases hlt : at_ < data.length
    · have hpos : (0 : Int) < ((data.length - at_ : Nat) : Int) := by omega
      have KF : Hid (CallsIn Fence.wide (n - 1) Tryz.prog 68 #[.slice pr (data.length - at_) qr, .int .i64 k] wr fun e w' => ∃ u, e = .returned (.tuple #[u, .int .i64 (codeR data at_ k)]) ∧ u = (if codeR data at_ k = 0 then .slice pr (5 + numR data at_) qr else .slice none 0 0) ∧ Below wr.heap.size wr w') := by
        have h := firstRecord_c pr qr (data.drop at_) k wr (hrd.keep hB) (by rw [hdl]; omega)
        rw [hdl, codeB_R data at_ k hat, numB_R] at h
        exact callsIn_wide.2 h
      have HIT : Hid (itemsR data 0 0 = pre.map Pce.key ++ itemsR data at_ k) := hit
      have HRD : Hid (Rd w pr qr (data.drop at_)) := hrd
      have HJ : Hid (J pre wr) := hJs
      clear hit hrd hJs
      by_cases hc : codeR data at_ k = 0
      · obtain ⟨h1, h2, h3, h4⟩ := itemsR_good hlt hc
        have HX : Hid (itemsR data at_ k = (0, (data.drop at_).take (5 + numR data at_)) :: itemsR data (at_ + 5 + numR data at_) (k + 1)) := h1
        rw [hc, if_pos rfl] at KF
        have hbl : Hid (((data.drop at_).take (5 + numR data at_)).length = 5 + numR data at_) := by show _ = _; rw [List.length_take, List.length_drop]; omega
        clear hc h1
        generalize numR data at_ = m at *
        obtain ⟨b, o, rfl, -⟩ := HRD.out.2.2.2 (by rw [hdl]; omega)
        have HNX : Hid (∀ pp, (¬ qr = 5 + m → pp = some ⟨b, o + (5 + m), none⟩) → (pp = none → qr - (5 + m) = 0) → Rd w pp (qr - (5 + m)) (data.drop (at_ + 5 + m))) := fun pp hp hn => by
          obtain ⟨-, q2, -, cs⟩ := HRD.out
          refine ⟨by rw [List.length_drop]; omega, by omega, hn, fun hpos2 => ?_⟩
          rw [List.length_drop] at hpos2
          obtain ⟨b2, o2, e2, hcs⟩ := cs (by rw [hdl]; omega)
          cases e2
          refine ⟨b, o + (5 + m), hp (by omega), fun i hi => ?_⟩
          rw [List.length_drop] at hi
          rw [Nat.add_assoc, hcs (5 + m + i) (by rw [hdl]; omega), at8_get (by rw [hdl]; omega), at8_get (by rw [List.length_drop]; omega)]
          congr 3
          rw [List.getElem_drop, List.getElem_drop]
          congr 2
          omega
        gi_wp2_with fail
        refine ⟨trivial, fun e => by simp [Fence.wide] at e, KF.out.mono ?_⟩
        rintro e w1 ⟨u, rfl, rfl, hb1⟩
        obtain ⟨fn, tmps, assign, body, hy, hR⟩ := hY pre ⟨some ⟨b, o, none⟩, qr, (data.drop at_).take (5 + m), 0, HRD.out.take _, .inl ⟨rfl, by have := hbl.out; omega⟩⟩ w1 (hJ _ _ _ none HJ.out (below_grown hb1 none) (fun r e => by cases e)) (by omega)
        dsimp only [Pce.encs] at hy
        rw [hbl.out] at hy
        gi_wp2
        refine ⟨fun e => by simp [Fence.wide] at e, hR.mono ?_⟩
        rintro e W3 (⟨rfl, hJ3, hk3⟩ | ⟨rfl, hJx3⟩)
        · gi_wp2
          refine ⟨⟨_, at_ + 5 + m, k + 1, _, _, rfl, by rw [show data.length - at_ - (5 + m) = data.length - (at_ + 5 + m) by omega], h2, by omega, ?_, ?_, HNX.out _ (fun h => if_neg h) (fun h => ?_), hJ3, hB.trans ((hb1.mono hB.size).trans hk3)⟩, ?_⟩
          · rw [List.length_append, List.length_singleton, hpl]
          · rw [HIT.out, HX.out, List.map_append, List.append_assoc]
            rfl
          · split at h <;> cases h
          · show data.length - at_ - (5 + m) < data.length - at_
            omega
        · gi_wp2
          refine bodyPost_ret (results_none rfl _ _ _) rfl ⟨⟨_, rfl⟩, .inr ⟨_, ?_, hJx3⟩⟩
          rw [HIT.out, HX.out, List.map_append]
          exact ⟨itemsR data (at_ + 5 + m) (k + 1), by simp [Pce.key]⟩
      · have HX : Hid (itemsR data at_ k = [(codeR data at_ k, [])]) := itemsR_bad hlt hc
        generalize codeR data at_ k = c at *
        have hcb : (c == 0) = false := by rw [beq_eq_false_iff_ne]; exact hc
        have hcn : (c != 0) = true := by rw [bne_iff_ne]; exact hc
        rw [if_neg hc] at KF
        clear hc
        gi_wp2_with fail
        refine ⟨trivial, fun e => by simp [Fence.wide] at e, KF.out.mono ?_⟩
        rintro e w1 ⟨u, rfl, rfl, hb1⟩
        obtain ⟨fn, tmps, assign, body, hy, hR⟩ := hY pre ⟨none, 0, [], c, rd_no w, .inr ⟨hcb, rfl, rfl, rfl⟩⟩ w1 (hJ _ _ _ none HJ.out (below_grown hb1 none) (fun r e => by cases e)) (by omega)
        dsimp only [Pce.encs, List.length_nil] at hy
        gi_wp2
        refine ⟨fun e => by simp [Fence.wide] at e, hR.mono ?_⟩
        rintro e W3 (⟨rfl, hJ3, hk3⟩ | ⟨rfl, hJx3⟩)
        · gi_wp2
          refine bodyPost_ret (results_none rfl _ _ _) rfl ⟨⟨_, rfl⟩, .inl ⟨_, ?_, hJ3⟩⟩
          rw [HIT.out, HX.out, List.map_append]
          rfl
        · gi_wp2
          refine bodyPost_ret (results_none rfl _ _ _) rfl ⟨⟨_, rfl⟩, .inr ⟨_, ?_, hJx3⟩⟩
          rw [HIT.out, HX.out, List.map_append]
          exact List.prefix_refl _
    · have hz : data.length - at_ = 0 := by omega
      rw [hz]
      gi_wp2
      go_end0
      exact ⟨⟨_, rfl⟩, .inl ⟨pre, by rw [hit, itemsR_end hlt, List.append_nil], hJs⟩⟩
end Go.Proofs.YtdemfbbjdnjolaaGreatDoor

