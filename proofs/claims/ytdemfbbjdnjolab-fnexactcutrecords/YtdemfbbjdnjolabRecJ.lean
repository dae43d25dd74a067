/- The iterator of CutRecords of the program: for every loop body that keeps what lay it tells the pieces of the data one by one, each with its code. What was there stays. -/
import Derived.Test.YtdemfbbjdnjolabRecM
import Derived.Test.YtdemfbbjdnjolabRecH
import Derived.Test.YtdemfbbjdnjolabRnd
import Derived.Test.YtdemfbbjdnjolabClone
namespace Go.Proofs.Ytdemfbbjdnjolab
open Go.ChangeShapes Go.WideShapes Go.ChangeAt Go.RowKit Go.Shelf

attribute [local go_sem] Oper.semAt_some

/-- One piece as the iterator tells it: where it lies, its bytes and its code. -/
structure Pce (w : World) where
  p : Option Addr
  q : Nat
  bs : List UInt8
  c : Int
  rd : Rd w p q bs
  ok : (c = 0 ∧ bs.length ≤ 245) ∨ ((c == 0) = false ∧ bs = [] ∧ p = none ∧ q = 0)
def Pce.encs {w : World} (x : Pce w) : Array Value := #[.slice x.p x.bs.length x.q, .int .i64 x.c]
def Pce.key {w : World} (x : Pce w) : Int × List UInt8 := (x.c, x.bs)
theorem rd_no (w : World) : Rd w none 0 [] := ⟨Nat.le_refl _, by unfold maxLen; decide, fun _ => rfl, fun hp => by simp at hp⟩
def slN : Value → Nat
  | .slice _ n _ => n
  | _ => 0
theorem codeB_R (data : List UInt8) (at_ k : Nat) (h : at_ ≤ data.length) : codeB (data.drop at_) k = codeR data at_ k := by
  unfold codeB codeR numB numR
  rw [List.drop_drop, List.length_drop]
  by_cases h1 : data.length - at_ < 5
  · rw [if_pos h1, if_pos h1]
  · rw [if_neg h1, if_neg h1]
    by_cases h2 : 240 < getB ((data.drop (at_ + 3)).take 2)
    · rw [if_pos h2, if_pos h2]
    · rw [if_neg h2, if_neg h2]
      by_cases h3 : data.length - at_ - 5 < getB ((data.drop (at_ + 3)).take 2)
      · rw [if_pos h3, if_pos (by omega)]
      · rw [if_neg h3, if_neg (by omega)]
theorem numB_R (data : List UInt8) (at_ : Nat) : numB (data.drop at_) = numR data at_ := by unfold numB numR; rw [List.drop_drop]
set_option maxRecDepth 100000 in
set_option maxHeartbeats 2000000 in
theorem recordsIn1_c (n l Bd : Nat) (w : World) (p : Option Addr) (q : Nat) (data : List UInt8) (hr : Rd w p q data) (hd : data.length ≤ 600) (J Jx : List (Pce w) → World → Prop) (W : World) (hJ : AbidesFrom W.heap.size J)
    (hY : ∀ pre x W1, J pre W1 → pre.length < 9 → YieldAt Fence.wide (n - 1) Try.prog l x.encs W1 fun e W' =>
      (e = .returned (.bool true) ∧ J (pre ++ [x]) W' ∧ Below w.heap.size W1 W') ∨ (e = .returned (.bool false) ∧ Jx (pre ++ [x]) W'))
    (hBd : W.cell? ⟨Bd, 0, none⟩ = some (.slice p data.length q)) (hW : Below w.heap.size w W) (h0 : J [] W) :
    CallsIn Fence.wide n Try.prog 19 #[.func (.yield l) #[] #[], .pointer (some ⟨Bd, 0, none⟩)] W fun e W' => (∃ v, e = .returned v) ∧
      ((∃ xs : List (Pce w), xs.map Pce.key = itemsR data 0 0 ∧ J xs W') ∨ (∃ pre : List (Pce w), pre.map Pce.key <+: itemsR data 0 0 ∧ Jx pre W')) := by
  have HR : Hid (Rd w p q data) := hr
  clear hr
  refine callsIn_of_wp Try.func19 rfl trivial ?_ rfl
  simp only [Try.ntmps19, List.size_toArray, List.length_cons, List.length_nil, Nat.reduceAdd, Nat.reduceSub, Array.replicate_succ, Array.replicate_zero, List.push_toArray, List.append_toArray, List.nil_append, List.cons_append]
  gi_wp2
  gi_loopw [3, 4] (fun r i wr => ∃ (pre : List (Pce w)) (at_ k : Nat) (pr : Option Addr) (qr : Nat), i = .int .i64 k ∧ r = .slice pr (data.length - at_) qr ∧ at_ ≤ data.length ∧ k ≤ 8 ∧ pre.length = k ∧ itemsR data 0 0 = pre.map Pce.key ++ itemsR data at_ k ∧ Rd w pr qr (data.drop at_) ∧ J pre wr ∧ Below w.heap.size w wr)
    (fun r _ _ => slN r)
  case atStart => exact ⟨[], 0, 0, p, q, rfl, rfl, Nat.zero_le _, by decide, rfl, rfl, by simpa using HR.out, h0, hW⟩
  case round =>
    obtain ⟨pre, at_, k, pr, qr, rfl, rfl, hat, hk, hpl, hit, hrd, hJs, hB⟩ := hrel
    have hdl : (data.drop at_).length = data.length - at_ := List.length_drop
    have hq1 : data.length - at_ ≤ qr := by rw [← hdl]; exact hrd.1
    have hq2 : qr ≤ 2 ^ 63 - 1 := hrd.2.1
    by_cases hlt : at_ < data.length
    · have hpos : (0 : Int) < ((data.length - at_ : Nat) : Int) := by omega
      have KF : Hid (CallsIn Fence.wide (n - 1) Try.prog 20 #[.slice pr (data.length - at_) qr, .int .i64 k] wr fun e w' => ∃ u, e = .returned (.tuple #[u, .int .i64 (codeR data at_ k)]) ∧ u = (if codeR data at_ k = 0 then .slice pr (5 + numR data at_) qr else .slice none 0 0) ∧ Below wr.heap.size wr w') := by
        have h := firstRecord_c pr qr (data.drop at_) k wr (hrd.keep hB) (by rw [hdl]; omega)
        rw [hdl, codeB_R data at_ k hat, numB_R] at h
        exact callsIn_wide.2 h
      have HIT : Hid (itemsR data 0 0 = pre.map Pce.key ++ itemsR data at_ k) := hit
      have HRD : Hid (Rd w pr qr (data.drop at_)) := hrd
      have HJ : Hid (J pre wr) := hJs
      clear hit hrd hJs
      by_cases hc : codeR data at_ k = 0
      · obtain ⟨h1, h2, h3, h4⟩ := itemsR_good hlt hc
        have HX : Hid (itemsR data at_ k = (0, (data.drop at_).take (5 + numR data at_)) :: itemsR data (at_ + 5 + numR data at_) (k + 1)) := h1
        rw [hc, if_pos rfl] at KF
        have hbl : Hid (((data.drop at_).take (5 + numR data at_)).length = 5 + numR data at_) := by show _ = _; rw [List.length_take, List.length_drop]; omega
        clear hc h1
        generalize numR data at_ = m at *
        obtain ⟨b, o, rfl, -⟩ := HRD.out.2.2.2 (by rw [hdl]; omega)
        have HNX : Hid (∀ pp, (¬ qr = 5 + m → pp = some ⟨b, o + (5 + m), none⟩) → (pp = none → qr - (5 + m) = 0) → Rd w pp (qr - (5 + m)) (data.drop (at_ + 5 + m))) := fun pp hp hn => by
          obtain ⟨-, q2, -, cs⟩ := HRD.out
          refine ⟨by rw [List.length_drop]; omega, by omega, hn, fun hpos2 => ?_⟩
          rw [List.length_drop] at hpos2
          obtain ⟨b2, o2, e2, hcs⟩ := cs (by rw [hdl]; omega)
          cases e2
          refine ⟨b, o + (5 + m), hp (by omega), fun i hi => ?_⟩
          rw [List.length_drop] at hi
          rw [Nat.add_assoc, hcs (5 + m + i) (by rw [hdl]; omega), at8_get (by rw [hdl]; omega), at8_get (by rw [List.length_drop]; omega)]
          congr 3
          rw [List.getElem_drop, List.getElem_drop]
          congr 2
          omega
        gi_wp2_with fail
        refine ⟨trivial, fun e => by simp [Fence.wide] at e, KF.out.mono ?_⟩
        rintro e w1 ⟨u, rfl, rfl, hb1⟩
        obtain ⟨fn, tmps, assign, body, hy, hR⟩ := hY pre ⟨some ⟨b, o, none⟩, qr, (data.drop at_).take (5 + m), 0, HRD.out.take _, .inl ⟨rfl, by have := hbl.out; omega⟩⟩ w1 (hJ _ _ _ none HJ.out (below_grown hb1 none) (fun r e => by cases e)) (by omega)
        dsimp only [Pce.encs] at hy
        rw [hbl.out] at hy
        gi_wp2
        refine ⟨fun e => by simp [Fence.wide] at e, hR.mono ?_⟩
        rintro e W3 (⟨rfl, hJ3, hk3⟩ | ⟨rfl, hJx3⟩)
        · gi_wp2
          refine ⟨⟨_, at_ + 5 + m, k + 1, _, _, rfl, by rw [show data.length - at_ - (5 + m) = data.length - (at_ + 5 + m) by omega], h2, by omega, ?_, ?_, HNX.out _ (fun h => if_neg h) (fun h => ?_), hJ3, hB.trans ((hb1.mono hB.size).trans hk3)⟩, ?_⟩
          · rw [List.length_append, List.length_singleton, hpl]
          · rw [HIT.out, HX.out, List.map_append, List.append_assoc]
            rfl
          · split at h <;> cases h
          · show data.length - at_ - (5 + m) < data.length - at_
            omega
        · gi_wp2
          refine bodyPost_ret (results_none rfl _ _ _) rfl ⟨⟨_, rfl⟩, .inr ⟨_, ?_, hJx3⟩⟩
          rw [HIT.out, HX.out, List.map_append]
          exact ⟨itemsR data (at_ + 5 + m) (k + 1), by simp [Pce.key]⟩
      · have HX : Hid (itemsR data at_ k = [(codeR data at_ k, [])]) := itemsR_bad hlt hc
        generalize codeR data at_ k = c at *
        have hcb : (c == 0) = false := by rw [beq_eq_false_iff_ne]; exact hc
        have hcn : (c != 0) = true := by rw [bne_iff_ne]; exact hc
        rw [if_neg hc] at KF
        clear hc
        gi_wp2_with fail
        refine ⟨trivial, fun e => by simp [Fence.wide] at e, KF.out.mono ?_⟩
        rintro e w1 ⟨u, rfl, rfl, hb1⟩
        obtain ⟨fn, tmps, assign, body, hy, hR⟩ := hY pre ⟨none, 0, [], c, rd_no w, .inr ⟨hcb, rfl, rfl, rfl⟩⟩ w1 (hJ _ _ _ none HJ.out (below_grown hb1 none) (fun r e => by cases e)) (by omega)
        dsimp only [Pce.encs, List.length_nil] at hy
        gi_wp2
        refine ⟨fun e => by simp [Fence.wide] at e, hR.mono ?_⟩
        rintro e W3 (⟨rfl, hJ3, hk3⟩ | ⟨rfl, hJx3⟩)
        · gi_wp2
          refine bodyPost_ret (results_none rfl _ _ _) rfl ⟨⟨_, rfl⟩, .inl ⟨_, ?_, hJ3⟩⟩
          rw [HIT.out, HX.out, List.map_append]
          rfl
        · gi_wp2
          refine bodyPost_ret (results_none rfl _ _ _) rfl ⟨⟨_, rfl⟩, .inr ⟨_, ?_, hJx3⟩⟩
          rw [HIT.out, HX.out, List.map_append]
          exact List.prefix_refl _
    · have hz : data.length - at_ = 0 := by omega
      rw [hz]
      gi_wp2
      go_end0
      exact ⟨⟨_, rfl⟩, .inl ⟨pre, by rw [hit, itemsR_end hlt, List.append_nil], hJs⟩⟩
end Go.Proofs.Ytdemfbbjdnjolab
