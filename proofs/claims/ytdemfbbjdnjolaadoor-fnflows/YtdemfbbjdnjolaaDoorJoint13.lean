/- The contracts of the laws' helpers on lists of bytes, and on answers that hold such a list: toByteSS, szByteSS, eqByteSS, markByteSS, heldByteSS; eqBlocksResult, markBlocksResult, heldBlocksResult. -/
import Derived.Test.YtdemfbbjdnjolaaDoorJoint9
import Derived.Test.YtdemfbbjdnjolaaDoorJoint4
import Derived.Test.YtdemfbbjdnjolaaDoorJoint10
import Derived.Test.YtdemfbbjdnjolaaDoorRec
import Derived.Test.YtdemfbbjdnjolaaDoorJoint5
import Derived.Test.YtdemfbbjdnjolaaDoorPad
import Derived.BigQuiet
import Derived.Test.YtdemfbbjdnjolaaDoorJoinI
import Derived.Handy
namespace Go.Proofs.YtdemfbbjdnjolaaDoor
open Go.ChangeShapes Go.WideShapes Go.ChangeAt Go.RowKit

abbrev BlkD := List UInt8
theorem blk_rep {w : World} {a : BlkD} {vs : List Value} (h : bytC.rep w a vs) : ∃ p q, vs = [.slice p a.length q] ∧ Rd w p q a := h
theorem blk_own {w : World} {B : Nat} {a : BlkD} {vs : List Value} {fp : List Nat} (h : bytC.own w B a vs fp) : ∃ v, vs = [v] ∧ Own w B v a ∧ fp = v.ownBlock.toList := h
theorem blk_own_mk {w : World} {B : Nat} {a : BlkD} {v : Value} (o : Own w B v a) : bytC.own w B a [v] v.ownBlock.toList := ⟨v, rfl, o, rfl⟩
def sumB (l : List BlkD) : Nat := (l.map List.length).sum
def bulkB (l : List BlkD) : Nat := sumB l + l.length
theorem sumB_take {l : List BlkD} {k : Nat} {a : BlkD} (h : l[k]? = some a) : sumB (l.take (k + 1)) = sumB (l.take k) + a.length := by
  rw [List.take_add_one, h]; simp [sumB]
theorem sumB_append (l r : List BlkD) : sumB (l ++ r) = sumB l + sumB r := by simp [sumB]
theorem sumB_le (l : List BlkD) (k : Nat) : sumB (l.take k) ≤ sumB l := by
  conv => rhs; rw [← List.take_append_drop k l, sumB_append]
  omega
theorem sumB_at {l : List BlkD} {k : Nat} {a : BlkD} (h : l[k]? = some a) : a.length ≤ sumB l := by
  have h1 := sumB_take h
  have h2 := sumB_le l (k + 1)
  omega

theorem infoBlk : (Tryd.prog.info? 22).map (fun i => (i.zero, i.size, i.bytes)) = some (some (.slice none 0 0), 1, 24) := by kernel_rfl



def mkB : List BlkD → Nat → List BlkD
  | [], _ => []
  | a :: l, m => marks m a.length :: mkB l (m + a.length)
theorem mkB_append : ∀ (l r : List BlkD) (m : Nat), mkB (l ++ r) m = mkB l m ++ mkB r (m + sumB l)
  | [], r, m => by simp [mkB, sumB]
  | a :: l, r, m => by
    rw [List.cons_append, mkB, mkB, mkB_append l r, List.cons_append, show m + a.length + sumB l = m + sumB (a :: l) by simp [sumB]; omega]
theorem mkB_len : ∀ (l : List BlkD) (m : Nat), (mkB l m).length = l.length
  | [], _ => rfl
  | a :: l, m => by rw [mkB, List.length_cons, mkB_len l, List.length_cons]
theorem mkB_take {l : List BlkD} {k : Nat} {a : BlkD} (h : l[k]? = some a) (m : Nat) : mkB (l.take (k + 1)) m = mkB (l.take k) m ++ [marks (m + sumB (l.take k)) a.length] := by
  rw [List.take_add_one, h, mkB_append]; rfl
theorem mkB_at {l : List BlkD} {k : Nat} {a : BlkD} (h : l[k]? = some a) (m : Nat) : (mkB l m)[k]? = some (marks (m + sumB (l.take k)) a.length) := by
  have hk := (List.getElem?_eq_some_iff.1 h).1
  conv => lhs; rw [← List.take_append_drop k l, drop_at h, mkB_append]
  rw [List.getElem?_append_right (by rw [mkB_len, List.length_take]; omega), mkB_len, List.length_take, Nat.min_eq_left (by omega), Nat.sub_self]
  rfl



end Go.Proofs.YtdemfbbjdnjolaaDoor

/- Regions that draw their order in which an append (it may write in an old row) stands ahead of one operation that needs no world (an address): that one is taken first, the append and what waits for it come at the end, each alone. Beside Pick.lean. No program in it. -/
namespace Go.Proofs.YtdemfbbjdnjolaaDoor
open Go Go.RowKit

section
variable {P : Program} {ops : Array Oper} {md : Region.Mode} {Q' : Exit → Act → World → Prop} {last m : Nat}

/-- These come up one behind the other, each alone, and nothing is left. -/
def okCh (md : Region.Mode) (ops : Array Oper) : Array Bool → List Nat → Bool
  | L, [] => (Region.ready md ops L).isEmpty
  | L, j :: js => (Region.ready md ops L == [j]) && ((ops[j]?).isSome && okCh md ops (L.setIfInBounds j true) js)
theorem wpAny_chainL : ∀ (js : List Nat) (L : Array Bool) (a : Act) (w : World), okCh md ops L js = true → wpList P ops Q' (opsAt ops js) a w → wpAny P md ops Q' js.length L a w
  | [], L, a, w, hB, h => ⟨by simpa [okCh] using hB, by simpa [opsAt, wpList] using h⟩
  | j :: js, L, a, w, hB, h => by
    simp only [okCh, Bool.and_eq_true, beq_iff_eq] at hB
    obtain ⟨hr, hs, hB'⟩ := hB
    obtain ⟨o, h0⟩ := Option.isSome_iff_exists.1 hs
    have ho : opsAt ops (j :: js) = o :: opsAt ops js := by simp only [opsAt, h0]
    rw [ho] at h
    refine ⟨fun e => (by rw [hr] at e; cases e), fun i hi => ?_⟩
    rw [hr] at hi
    have hij := List.mem_singleton.1 hi
    subst hij
    have hrec := fun a' w' => wpAny_chainL js (L.setIfInBounds i true) a' w' hB'
    unfold wpOp
    simp only [h0]
    unfold wpList at h
    split
    · rename_i hw
      rw [if_pos hw] at h
      rcases h with h | h
      · exact .inl (Oper.wp_mono (fun a' w' hh => hrec a' w' hh) h)
      · exact .inr h
    · rename_i hw
      rw [if_neg hw] at h
      exact hrec _ _ h
theorem wpM_endL {L : Array Bool} {a : Act} {V : World} (js : List Nat) (hm : m = js.length + 1) (hB : okCh md ops L (last :: js) = true) (h : ∀ w, (∃ s : HW V, w = s.w) → wpList P ops Q' (opsAt ops (last :: js)) a w) : wpM P md ops Q' last m 0 L a V := by
  have hr : Region.ready md ops L = [last] := by
    simp only [okCh, Bool.and_eq_true, beq_iff_eq] at hB
    exact hB.1
  refine ⟨fun i hi => by rw [hr] at hi; exact List.mem_singleton.1 hi, fun w hw => ?_⟩
  subst hm
  exact wpAny_chainL (last :: js) L a w hB (h w hw)
/-- The region: number j first (it needs no world), these quiet operations, then k more ahead of the chain of m. -/
theorem wp_region_pickW {id : Nat} {a : Act} {w : World} (j : Nat) {oj : Oper} (v : Value) (hj : ops[j]? = some oj) (is : List Nat) (last k m : Nat) (hk : last = is.length + k) (hn : ops.size = last + m + 1) (hm : P.follows .mixedOrders = true) (hs : Region.noSelect ops = true)
    (hfj : Region.free .any ops (Array.replicate ops.size false) j = true) (hrj : (Region.ready .any ops (Array.replicate ops.size false)).contains j = true) (hQ : ∀ c a w, Q' (.panic c) (a.put oj.dst v) w → Q' (.panic c) a w) (hy : Yields P ops oj v a)
    (hlast : waitsT .any ops last = true) (hB : okSeq .any ops last ((Array.replicate ops.size false).setIfInBounds j true) is = true) (hp : (opsAt ops is).all plainB = true)
    (h : wpQuiet P ops (fun w' => ∃ s : HW w, w' = s.w) (fun a' => wpM P .any ops Q' last m k (setAll ((Array.replicate ops.size false).setIfInBounds j true) is) a' w) (opsAt ops is) (a.put oj.dst v)) : (Code.region id ops true).wp P Q' a w := by
  have h1 := wpM_pick (Q' := Q') (m := m) hlast hs k is ((Array.replicate ops.size false).setIfInBounds j true) (a.put oj.dst v) hB hp h
  refine wp_region_any hm ?_
  have h2 := wpAny_of_M (is.length + k) _ (a.put oj.dst v) w { w with drawn := w.drawn + 1 } ⟨⟨w.drew, (Below.refl _ _).drew⟩, rfl⟩ h1
  rw [← hk] at h2
  rw [hn]
  rw [hn] at hfj hrj h2
  exact wpAny_take hj hs hfj hrj hQ hy h2
end
end Go.Proofs.YtdemfbbjdnjolaaDoor

/- The contract of CutRecords in the specification, at every argument: code and pieces. What was there stays. -/
namespace Go.Proofs.YtdemfbbjdnjolaaDoor
open Go.ChangeShapes Go.WideShapes Go.ChangeAt Go.RowKit

theorem numR_lt (data : List UInt8) (k : Nat) : numR data k < 65536 := by
  have h := getB_lt ((data.drop (k + 3)).take 2)
  have h2 : ((data.drop (k + 3)).take 2).length ≤ 2 := List.length_take_le _ _
  have h3 : 256 ^ ((data.drop (k + 3)).take 2).length ≤ 256 ^ 2 := Nat.pow_le_pow_right (by decide) h2
  unfold numR
  omega
theorem cutR_sum (data : List UInt8) : ∀ (m at_ : Nat) (out : List (List UInt8)), data.length - at_ ≤ m → at_ ≤ data.length → sumB out ≤ at_ → sumB (cutR data at_ out).2 ≤ data.length
  | 0, at_, out, hm, hle, ho => by
    rw [cutR_end (by omega)]
    show sumB out ≤ _
    omega
  | m + 1, at_, out, hm, hle, ho => by
    by_cases h : at_ < data.length
    · by_cases h1 : data.length - at_ < 5
      · rw [cutR_a h h1]; exact Nat.zero_le _
      · by_cases h2 : 240 < numR data at_
        · rw [cutR_b h h1 h2]; exact Nat.zero_le _
        · by_cases h3 : data.length - at_ - 5 < numR data at_
          · rw [cutR_c h h1 h2 h3]; exact Nat.zero_le _
          · by_cases h4 : 8 ≤ out.length
            · rw [cutR_d h h1 h2 h3 h4]; exact Nat.zero_le _
            · rw [cutR_next h h1 h2 h3 h4]
              refine cutR_sum data m _ _ (by omega) (by omega) ?_
              rw [sumB_append]
              have : sumB [(data.drop at_).take (5 + numR data at_)] = 5 + numR data at_ := by simp [sumB]; omega
              omega
    · rw [cutR_end h]
      show sumB out ≤ _
      omega
theorem crL_sum (data : List UInt8) : sumB (crL data) ≤ 1048576 := by
  unfold crL
  split
  · have := cutR_sum data data.length 0 [] (by omega) (Nat.zero_le _) (Nat.le_refl _)
    omega
  · exact Nat.zero_le _
theorem nil_ownC (w : World) (B : Nat) : OwnL 22 bytC w B (.slice none 0 0) [] [] [] := ⟨World.ownsRow_nil _ _ _ _, ⟨rfl, rfl⟩, by simp [Value.ownBlock]⟩
theorem OwnL.setB {α : Type} {e : TypeId} {c : Cod α} {w : World} {B : Nat} {v : Value} {l : List α} {xs : List Value} {fp : List Nat} (h : OwnL e c w B v l xs fp) {p : Addr} (hp : p.block < B) (u : Value) : OwnL e c (w.setCell p u) B v l xs fp :=
  h.fr fun k hk => heap_setCell_other _ _ k _ (by have := (h.ins k hk).1; omega)
theorem blk_own_c {w : World} {B : Nat} {u : Value} {bs : List UInt8} (h : Own w B u bs) : bytC.own w B bs [u] u.ownBlock.toList := ⟨u, rfl, h, rfl⟩
end Go.Proofs.YtdemfbbjdnjolaaDoor

/- impl.toldLength, impl.firstRecord of the program, at every argument that they are called at. What was there stays. -/
namespace Go.Proofs.YtdemfbbjdnjolaaDoor
open Go.ChangeShapes Go.WideShapes Go.ChangeAt Go.RowKit

theorem told_get (bs : List UInt8) (h : 5 ≤ bs.length) : ((getB ((bs.drop 3).take 2) : Nat) : Int) = at8 bs 3 * 256 + at8 bs 4 := by
  rw [List.drop_eq_getElem_cons (by omega), List.drop_eq_getElem_cons (by omega)]
  rw [List.take_succ_cons, List.take_succ_cons, List.take_zero]
  show (((0 * 256 + (bs[3]'(by omega)).toNat) * 256 + (bs[4]'(by omega)).toNat : Nat) : Int) = _
  rw [at8_get (by omega), at8_get (by omega)]
  omega
theorem orI_nat (a b : Nat) (ha : a < 9223372036854775808) (hb : b < 9223372036854775808) : bits .or .i64 (a : Int) (b : Int) = ((a ||| b : Nat) : Int) := by
  have hx : a ||| b < 2 ^ 63 := Nat.or_lt_two_pow (by omega) (by omega)
  show IntKind.i64.wrap ((BitVec.ofInt 64 (a : Int) ||| BitVec.ofInt 64 (b : Int)).toNat : Int) = _
  rw [BitVec.toNat_or, ofInt_i64 a ha, ofInt_i64 b hb, wrap_i64_nat _ (by omega)]
theorem orI_two {x y : Int} (hx : 0 ≤ x) (hx2 : x ≤ 255) (hy : 0 ≤ y) (hy2 : y ≤ 255) : bits .or .i64 (x * 256) y = x * 256 + y := by
  obtain ⟨a, rfl⟩ : ∃ n : Nat, x = (n : Int) := ⟨x.toNat, by omega⟩
  obtain ⟨b, rfl⟩ : ∃ n : Nat, y = (n : Int) := ⟨y.toNat, by omega⟩
  rw [show ((a : Int) * 256) = ((a * 2 ^ 8 : Nat) : Int) by omega, orI_nat _ _ (by omega) (by omega), ← Nat.shiftLeft_eq, ← Nat.shiftLeft_add_eq_or_of_lt (show b < 2 ^ 8 by omega)]
  omega
set_option maxRecDepth 4000 in
set_option maxHeartbeats 400000 in
theorem toldLength_c (p : Option Addr) (q : Nat) (bs : List UInt8) (w : World) (hr : Rd w p q bs) (h5 : 5 ≤ bs.length) :
    Calls Tryd.prog 60 #[.slice p bs.length q] w fun e w' => e = .returned (.int .i64 (getB ((bs.drop 3).take 2) : Nat)) ∧ Below w.heap.size w w' := by
  obtain ⟨b, o, rfl, hc⟩ := hr.2.2.2 (by omega)
  have c3 := hc 3 (by omega)
  have c4 := hc 4 (by omega)
  have hl3 : (3 : Int) < (bs.length : Int) := by omega
  have hl4 : (4 : Int) < (bs.length : Int) := by omega
  have E : Hid (((getB ((bs.drop 3).take 2) : Nat) : Int) = at8 bs 3 * 256 + at8 bs 4) := told_get bs h5
  have l3 := at8_lo bs 3
  have u3 := at8_hi bs 3
  have l4 := at8_lo bs 4
  have u4 := at8_hi bs 4
  clear hr hc
  go_enter Tryd.func60, Tryd.ntmps60
  go_wp2
  go_quiet (fail)
  go_wp2
  rw [orI_two l3 u3 l4 u4, ← E.out]
  go_ret
  exact ⟨rfl, below_drewN (Below.refl _ _) _⟩
/-- What the first piece is told as. -/
def numB (bs : List UInt8) : Nat := getB ((bs.drop 3).take 2)
def codeB (bs : List UInt8) (k : Nat) : Int := if bs.length < 5 then 5 else if 240 < numB bs then 3 else if bs.length < 5 + numB bs then 5 else if k = 8 then 2 else 0
end Go.Proofs.YtdemfbbjdnjolaaDoor

/- The contract of bytes.Clone: a copy in a row of its own. What was there stays. -/
namespace Go.Proofs.YtdemfbbjdnjolaaDoor
open Go.ChangeShapes Go.WideShapes Go.ChangeAt Go.RowKit

set_option maxRecDepth 4000 in
set_option maxHeartbeats 1000000 in
theorem bytesClone_c (p : Option Addr) (q : Nat) (bs : List UInt8) (w : World) (hr : Rd w p q bs) (hl : bs.length ≤ 1000000) :
    Calls Tryd.prog 57 #[.slice p bs.length q] w fun e w' => ∃ u, e = .returned u ∧ Own w' w.heap.size u bs ∧ Below w.heap.size w w' := by
  cases p with
  | none =>
    have hq := hr.2.2.1 rfl
    have hb : bs = [] := List.eq_nil_of_length_eq_zero (by have := hr.1; omega)
    subst hb hq
    have hnil : ∀ w, (Go.binOp .eql 22 (.slice none 0 0) (.slice none 0 0)).run Tryd.prog w = .ok (.bool true) w := by intro w; kernel_rfl
    go_enter Tryd.func57, Tryd.ntmps57
    go_wp2
    go_ret
    exact ⟨_, rfl, Own_nil _ _, Below.refl _ _⟩
  | some ad =>
    have hnil : ∀ w, (Go.binOp .eql 22 (.slice (some ad) bs.length q) (.slice none 0 0)).run Tryd.prog w = .ok (.bool false) w := by intro w; kernel_rfl
    have hr2 := hr.keep (alloc_below w (Obj.cells #[] 5))
    have ho := none_own8 w w.heap.size (Nat.le_refl _)
    go_enter Tryd.func57, Tryd.ntmps57
    go_wp2_with (at_builtin; refine wpList_append_rd rfl (.tmp 5) (.tmp 6) rfl w.heap.size _ [] rfl ho (some ad) q bs rfl hr2 (by simp; omega) (by simp) ?_; intro v' w' ho' hg')
    have RB := (alloc_below w (Obj.cells #[] 5)).grown hg' (by simp) (fun k hk => ho.ge k hk)
    go_ret
    exact ⟨_, rfl, ho', RB⟩
end Go.Proofs.YtdemfbbjdnjolaaDoor

