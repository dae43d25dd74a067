/- Stores behind the draws of chapter 10: what can be read stays. -/
import Derived.Test.YtpbkncliepkhaaaDoorDrawW
import Derived.Test.YtpbkncliepkhaaaDoorJoint16
import Derived.Test.YtpbkncliepkhaaaDoorJoint4
import Derived.Test.YtpbkncliepkhaaaDoorArr
import Derived.Laws.AppendOwnNone
import Derived.Test.YtpbkncliepkhaaaDoorCopy
import Derived.Test.YtpbkncliepkhaaaDoorJoint3
namespace Go.Proofs.YtpbkncliepkhaaaDoor
open Go.ChangeShapes Go.WideShapes Go.ChangeAt Go.RowKit

/-- What can be read is read behind a store elsewhere. -/
theorem rd_set {w : World} {a : Option Addr} {cap : Nat} {bs : List UInt8} (h : Rd w a cap bs) {d : Addr} (hd : ∀ x, a = some x → x.block ≠ d.block) (v : Value) : Rd (w.setCell d v) a cap bs := by
  obtain ⟨h1, h2, h3, h4⟩ := h
  refine ⟨h1, h2, h3, fun hp => ?_⟩
  obtain ⟨b, o, rfl, hc⟩ := h4 hp
  have hb : b ≠ d.block := hd _ rfl
  refine ⟨b, o, rfl, fun i hi => ?_⟩
  rw [World.cell?_of_block (w := w) (a := ⟨b, o + i, none⟩) (Below.heap_setCell _ _ _ _ hb)]
  exact hc i hi
/-- The answer's three cells are written last. -/
theorem bent_end3 {w v : World} {b : Nat} {p : Option Addr} {q : Nat} {cs : List UInt8} {t : Int} (hs : Src v b p q cs t) (hb : b < w.heap.size) (hg : w.grownBy v (some b)) (x y z : Value) :
    Src (((v.setCell ⟨w.heap.size, 0, none⟩ x).setCell ⟨w.heap.size, 1, none⟩ y).setCell ⟨w.heap.size, 2, none⟩ z) b p q cs t ∧ w.grownBy (((v.setCell ⟨w.heap.size, 0, none⟩ x).setCell ⟨w.heap.size, 1, none⟩ y).setCell ⟨w.heap.size, 2, none⟩ z) (some b) :=
  ⟨((hs.other (grownBy_set _ _ _ _) (fun k hk => by simp at hk; omega)).other (grownBy_set _ _ _ _) (fun k hk => by simp at hk; omega)).other (grownBy_set _ _ _ _) (fun k hk => by simp at hk; omega),
   grownBy_setNew (grownBy_setNew (grownBy_setNew hg (Nat.le_refl _)) (Nat.le_refl _)) (Nat.le_refl _)⟩
theorem msg_end {w v : World} {pu : Option Addr} {qu : Nat} {bs : List UInt8} (hb : Below w.heap.size w v) (r : Rd v pu qu bs) (hl : ∀ y, pu = some y → w.heap.size < y.block) (x y : Value) :
    Rd ((v.setCell ⟨w.heap.size, 0, none⟩ x).setCell ⟨w.heap.size, 1, none⟩ y) pu qu bs ∧ Below w.heap.size w ((v.setCell ⟨w.heap.size, 0, none⟩ x).setCell ⟨w.heap.size, 1, none⟩ y) := by
  have X1 := hb.grown (grownBy_set v w.heap.size 0 x) hb.size (fun k hk => by simp at hk; omega)
  refine ⟨rd_set (rd_set r (fun y hy => ?_) _) (fun y hy => ?_) _, X1.grown (grownBy_set _ w.heap.size 1 y) X1.size (fun k hk => by simp at hk; omega)⟩ <;> (have := hl y hy; show y.block ≠ w.heap.size; omega)
end Go.Proofs.YtpbkncliepkhaaaDoor

/- The contract of spec.DrawMixRound: some numbers, a word, a key; and a law of our own: append of numbers that can be read to a row of one's own. -/
namespace Go.Proofs.YtpbkncliepkhaaaDoor
open Go.ChangeShapes Go.WideShapes Go.ChangeAt Go.RowKit

theorem wpList_append_rdI {w : World} {ops : Array Oper} {rest : List Oper} {o : Oper} {a : Act} {Q : Exit → Act → World → Prop} (hgd : o.guard = none) (s x : Operand)
    (ho : o.op = .call { callee := .builtin .append, args := #[s, x], argTypes := #[96, 96] })
    (B : Nat) (v : Value) (xs : List Int) (hs : a.eval s = v) (hown : OwnI w B v xs) (p : Option Addr) (q : Nat) (bs : List Int) (hx : a.eval x = .slice p bs.length q) (hr : RdI w p q bs)
    (hl : xs.length + bs.length ≤ 100000000) (hB : B ≤ w.heap.size)
    (h : ∀ v' w', OwnI w' B v' (xs ++ bs) → w.grownBy w' v.ownBlock → wpList Tryd.prog ops Q rest (a.put o.dst v') w') : wpList Tryd.prog ops Q (o :: rest) a w := by
  obtain ⟨i0, hi, hz0, hz1, hz2⟩ := info_parts info64
  obtain ⟨h1, h2, h3, h4⟩ := hr
  cases p with
  | none =>
    have hq := h3 rfl
    subst hq
    have hb : bs = [] := List.eq_nil_of_length_eq_zero (by omega)
    subst hb
    refine wpList_append_own_none hgd s x _ ho B _ i0 1 Tryd.underlying96 hi v xs.length _ hs hown hx ?_
    exact h v w (by rw [List.append_nil]; exact hown) (World.grownBy.refl _ _)
  | some ad =>
    refine wpList_append_own _ hgd s x _ ho B 2 i0 (.int .i64 0) 1 8 Tryd.underlying96 hi hz0 hz1 hz2 rfl (by decide) v xs.length (xs.map i64z) hs hown ad bs.length q (bs.map i64z) hx (by simp) ?_ (by intro u hu; obtain ⟨n, -, rfl⟩ := List.mem_map.1 hu; rfl) (by unfold maxLen; omega) (by omega) hB ?_
    · intro j u hu
      have hj : j < bs.length := by have := (List.getElem?_eq_some_iff.1 hu).1; simpa using this
      obtain ⟨b, off, e, hc⟩ := h4 (by omega)
      simp at e
      subst e
      rw [addr_add, hc j hj, ← hu, i64z_at hj]
    · intro v' w' ho' hg' _
      refine h v' w' ?_ hg'
      unfold OwnI
      rw [List.length_append, List.map_append]
      exact ho'
theorem rdI_one (w : World) (b : Int) (t : TypeId) : RdI (w.alloc (.cells #[.int .i64 b] t)) (some ⟨w.heap.size, 0, none⟩) 1 [b] := by
  refine ⟨by simp, by unfold maxLen; decide, fun e => by simp at e, fun _ => ⟨w.heap.size, 0, rfl, fun i hi => ?_⟩⟩
  have : i = 0 := by simp at hi; omega
  subst this
  rw [World.cell?_alloc_new]
  rfl

end Go.Proofs.YtpbkncliepkhaaaDoor

/- The contract of the draws of chapter 2: spec.l2Draw, spec.DrawDigestOf: some bytes, at most 601. -/
namespace Go.Proofs.YtpbkncliepkhaaaDoor
open Go.ChangeShapes Go.WideShapes Go.ChangeAt Go.RowKit


end Go.Proofs.YtpbkncliepkhaaaDoor

/- The contract of the laws' own draw of a number (lwAt): it is below the bound. -/
namespace Go.Proofs.YtpbkncliepkhaaaDoor
open Go.ChangeShapes Go.WideShapes Go.ChangeAt Go.RowKit

theorem emod_nat (v : Int) (n : Nat) (h : 0 < n) : ∃ m : Nat, v % (n : Int) = (m : Int) ∧ m < n := by
  have h1 := Int.emod_nonneg v (show (n : Int) ≠ 0 by omega)
  have h2 := Int.emod_lt_of_pos v (show (0 : Int) < (n : Int) by omega)
  exact ⟨(v % (n : Int)).toNat, by omega, by omega⟩

end Go.Proofs.YtpbkncliepkhaaaDoor

/- The contracts of the draws of chapter 3: keys, data, labels, contexts, numbers: within bounds, no more. -/
namespace Go.Proofs.YtpbkncliepkhaaaDoor
open Go.ChangeShapes Go.WideShapes Go.ChangeAt Go.RowKit



/-- A row that was drawn ahead of other draws. -/
theorem Own.draw {w w' : World} {B b : Nat} {v : Value} {bs : List UInt8} (h : Own w B v bs) (hg : w.grownBy w' (some b)) (hb : b < B) : Own w' B v bs :=
  h.other hg (fun k hk e => by have := h.ge k hk; simp at e; omega)




def labs : List (List UInt8) := [[100, 101, 114, 105, 118, 101, 100], [99, 32, 104, 115, 32, 116, 114, 97, 102, 102, 105, 99], [102, 105, 110, 105, 115, 104, 101, 100], [97], [], [120, 10], [97, 98, 99, 100, 101, 102, 103, 104, 105, 106, 107, 108, 109, 110, 111, 112, 113, 114, 115, 116, 117, 118, 119, 120, 121, 122, 97, 98, 99, 100, 101, 102, 103, 104, 105, 106, 107, 108, 109, 110, 111]]
def labsV : List Value := labs.map (fun l => .string (strB l))
theorem labsV_at {k : Nat} (h : k < 7) : ∃ l : List UInt8, labsV[k]? = some (.string (strB l)) ∧ l.length ≤ 41 := by
  have hl : k < labs.length := h
  refine ⟨labs[k], by simp [labsV, hl], ?_⟩
  have : ∀ x ∈ labs, x.length ≤ 41 := by unfold labs; decide
  exact this _ (List.getElem_mem hl)




end Go.Proofs.YtpbkncliepkhaaaDoor

/- The contracts of the draws of chapter 4: keys, nonces, data, states, counts, bases, numbers: within bounds, no more. -/
namespace Go.Proofs.YtpbkncliepkhaaaDoor
open Go.ChangeShapes Go.WideShapes Go.ChangeAt Go.RowKit

set_option maxRecDepth 4000 in
set_option maxHeartbeats 1000000 in
theorem l4Key_c (b : Nat) (p : Option Addr) (q : Nat) (cs : List UInt8) (t : Int) (w : World) (hs : Src w b p q cs t) (ht : 0 ≤ t) (ht2 : t ≤ 800000000) :
    Calls Tryd.prog 50 #[.pointer (some ⟨b, 0, none⟩)] w fun e w' => ∃ (u : Value) (bs : List UInt8) (t' : Int), e = .returned u ∧ bs.length ≤ 32 ∧ t ≤ t' ∧ t' ≤ t + 1000 ∧ Own w' w.heap.size u bs ∧ Src w' b p q cs t' ∧ w.grownBy w' (some b) := by
  go_enter Tryd.func50, Tryd.ntmps50
  go_wp2_with fail
  refine (l1Pick_c b p q cs t w.heap.size [32, 32, 32, 32, 32, 32, 31, 0] 8 _ (hs.keep (alloc_below _ _)) ht (by omega) rfl (by decide) (by decide) (by have := hs.lt; omega) (new_ints _ _ _ [32, 32, 32, 32, 32, 32, 31, 0] rfl)).mono ?_
  rintro e w5 ⟨k, hk, rfl, hs5, hg5⟩
  have hR : Hid (0 ≤ k ∧ k ≤ 32) := by
    show _ ∧ _
    simp only [List.mem_cons, List.not_mem_nil, or_false] at hk
    omega
  clear hk
  have hg : w.grownBy w5 (some b) := grownBy_trans (World.grownBy_alloc _ _ _) hg5
  clear hg5
  go_wp2_with fail
  refine (l1Some_c b p q cs (t + 1) k w5 hs5 (by omega) (by omega) hR.out.1 (by have := hR.out.2; omega)).mono ?_
  rintro e w6 ⟨u, bs, rfl, hl, ho, hs6, hg6⟩
  go_wp2
  go_ret
  have h1 := hR.out.1
  have h2 := hR.out.2
  exact ⟨u, bs, _, rfl, by omega, by omega, by omega, ho.lower hg.size, hs6, grownBy_trans hg hg6⟩





end Go.Proofs.YtpbkncliepkhaaaDoor

/- The contracts of the draws of chapter 5: extras, plain bytes, what is sealed and bent: within bounds, no more. -/
namespace Go.Proofs.YtpbkncliepkhaaaDoor
open Go.ChangeShapes Go.WideShapes Go.ChangeAt Go.RowKit





set_option maxRecDepth 4000 in
set_option maxHeartbeats 1000000 in
theorem l1Later_c (p : Option Addr) (q : Nat) (cs : List UInt8) (n : Nat) (w : World) (hr : Rd w p q cs) (hn : n ≤ 1000) :
    Calls Tryd.prog 24 #[.slice p cs.length q, .int .i64 (n : Int)] w fun e w' => e = .returned (.pointer (some ⟨w.heap.size, 0, none⟩)) ∧ Src w' w.heap.size p q cs (5 + 7 * (n : Int)) ∧ Below w.heap.size w w' ∧ w.heap.size < w'.heap.size := by
  go_enter Tryd.func24, Tryd.ntmps24
  go_wp2
  go_ret
  refine ⟨rfl, ⟨Loc.new _ _ _, hr.keep (alloc_below _ _), fun hp x hx => ?_⟩, alloc_below _ _, by simp⟩
  obtain ⟨b, o, rfl, hc⟩ := hr.2.2.2 hp
  simp only [Option.some.injEq] at hx
  subst hx
  exact World.block_lt_of_cell? w _ (hc 0 hp)

theorem Rd.below {w : World} {a : Option Addr} {cap : Nat} {bs : List UInt8} (h : Rd w a cap bs) : 0 < bs.length → ∀ y, a = some y → y.block < w.heap.size := fun hp y hy => by
  obtain ⟨b, o, rfl, hc⟩ := h.2.2.2 hp
  simp at hy
  subst hy
  exact World.block_lt_of_cell? w _ (hc 0 hp)
theorem Rd.draw {w w' : World} {a : Option Addr} {cap b : Nat} {bs : List UInt8} (h : Rd w a cap bs) (hg : w.grownBy w' (some b)) (hlt : 0 < bs.length → ∀ y, a = some y → y.block < b) : Rd w' a cap bs :=
  h.other hg (fun hp y hy e => by have := hlt hp y hy; simp at e; omega)
end Go.Proofs.YtpbkncliepkhaaaDoor

