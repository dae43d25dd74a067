/- The contracts of chapter 3's functions in the program, at every argument: code and bytes, where the two tables hold what the program's text lays (Tabs). What was there stays. -/
import Derived.Test.YtajefbaoncmieahDoorKeyL
import Derived.Test.YtajefbaoncmieahDoorMaskI
namespace Go.Proofs.YtajefbaoncmieahDoor
open Go.ChangeShapes Go.WideShapes Go.ChangeAt Go.RowKit

theorem pcs_one (w : World) (x : Pc) (t : TypeId) (hx : Rd w x.p x.q x.bs) : Pcs (w.alloc (.cells #[x.val] t)) w.heap.size 0 [x] := by
  have hA := Arr.new w [x.val] t
  intro i z hz
  rw [Nat.zero_add, hA.cell]
  match i, hz with
  | 0, hz => simp at hz; subst hz; exact ⟨rfl, hx.keep (alloc_below _ _)⟩
  | i + 1, hz => simp at hz
theorem pcs_three (w : World) (x y z : Pc) (t : TypeId) (hx : Rd w x.p x.q x.bs) (hy : Rd w y.p y.q y.bs) (hz : Rd w z.p z.q z.bs) : Pcs (w.alloc (.cells #[x.val, y.val, z.val] t)) w.heap.size 0 [x, y, z] := by
  have hA := Arr.new w [x.val, y.val, z.val] t
  intro i v hv
  rw [Nat.zero_add, hA.cell]
  match i, hv with
  | 0, hv => simp at hv; subst hv; exact ⟨rfl, hx.keep (alloc_below _ _)⟩
  | 1, hv => simp at hv; subst hv; exact ⟨rfl, hy.keep (alloc_below _ _)⟩
  | 2, hv => simp at hv; subst hv; exact ⟨rfl, hz.keep (alloc_below _ _)⟩
  | i + 3, hv => simp at hv
theorem flat_one (x : Pc) : flat [x] = x.bs := by simp [flat]
theorem flat_three (x y z : Pc) : flat [x, y, z] = x.bs ++ y.bs ++ z.bs := by simp [flat]

theorem macOver1_c (p p2 : Option Addr) (q q2 : Nat) (key data : List UInt8) (w : World) (hr : Rd w p q key) (hr2 : Rd w p2 q2 data) (hT : Tabs w) (hk : key.length ≤ 64) (hl : data.length ≤ 536) :
    Calls Tryd.prog 29 #[.slice p key.length q, .slice (some ⟨w.heap.size, 0, none⟩) 1 1] (w.alloc (.cells #[.slice p2 data.length q2] 22)) fun e w' => ∃ a c, e = .returned (.slice a 32 c) ∧ Own w' w.heap.size (.slice a 32 c) (macN key data) ∧ Below w.heap.size w w' := by
  have h := macOver_c p q key [⟨p2, q2, data⟩] w.heap.size 0 1 _ (hr.keep (alloc_below _ _)) (pcs_one w ⟨p2, q2, data⟩ 22 hr2) (hT.keep (alloc_below _ _)) hk (by rw [flat_one]; exact hl) (by simp)
  rw [flat_one] at h
  refine h.mono ?_
  rintro e w1 ⟨u, rfl, k, hb⟩
  obtain ⟨a, c, rfl, -⟩ := k.rd
  rw [macN_len] at k ⊢
  exact ⟨a, c, rfl, k.lower (by rw [size_alloc]; omega), Below.res hb⟩
theorem macOver3_c (p p2 p3 p4 : Option Addr) (q q2 q3 q4 : Nat) (key xs ys : List UInt8) (z : UInt8) (w : World) (hr : Rd w p q key) (hr2 : Rd w p2 q2 xs) (hr3 : Rd w p3 q3 ys) (hr4 : Rd w p4 q4 [z]) (hT : Tabs w) (hk : key.length ≤ 64) (hl : xs.length + ys.length + 1 ≤ 536) :
    Calls Tryd.prog 29 #[.slice p key.length q, .slice (some ⟨w.heap.size, 0, none⟩) 3 3] (w.alloc (.cells #[.slice p2 xs.length q2, .slice p3 ys.length q3, .slice p4 1 q4] 22)) fun e w' => ∃ a c, e = .returned (.slice a 32 c) ∧ Own w' w.heap.size (.slice a 32 c) (macN key (xs ++ ys ++ [z])) ∧ Below w.heap.size w w' := by
  have h := macOver_c p q key [⟨p2, q2, xs⟩, ⟨p3, q3, ys⟩, ⟨p4, q4, [z]⟩] w.heap.size 0 3 _ (hr.keep (alloc_below _ _)) (pcs_three w ⟨p2, q2, xs⟩ ⟨p3, q3, ys⟩ ⟨p4, q4, [z]⟩ 22 hr2 hr3 hr4) (hT.keep (alloc_below _ _)) hk (by rw [flat_three]; simp; omega) (by simp)
  rw [flat_three] at h
  refine h.mono ?_
  rintro e w1 ⟨u, rfl, k, hb⟩
  obtain ⟨a, c, rfl, -⟩ := k.rd
  rw [macN_len] at k ⊢
  exact ⟨a, c, rfl, k.lower (by rw [size_alloc]; omega), Below.res hb⟩

set_option maxRecDepth 4000 in
set_option maxHeartbeats 1000000 in
theorem implMac_c (p p2 : Option Addr) (q q2 : Nat) (key data : List UInt8) (w : World) (hr : Rd w p q key) (hr2 : Rd w p2 q2 data) (hT : Tabs w) :
    Calls Tryd.prog 18 #[.slice p key.length q, .slice p2 data.length q2] w fun e w' => ∃ u, e = .returned (.agg #[.int .i64 (macC key data), u]) ∧ Own w' w.heap.size u (macL key data) ∧ Below w.heap.size w w' := by
  by_cases hc : key.length ≤ 64 ∧ data.length ≤ 500
  · obtain ⟨h1, h2⟩ := hc
    have hm : macOk key data = true := by simp [macOk, keyB, dataB, h1, h2]
    rw [show macC key data = 0 by simp [macC, hm], show macL key data = macN key data by simp [macL, hm]]
    have K : Hid (∀ w, Rd w p q key → Rd w p2 q2 data → Tabs w → Calls Tryd.prog 29 #[.slice p key.length q, .slice (some ⟨w.heap.size, 0, none⟩) 1 1] (w.alloc (.cells #[.slice p2 data.length q2] 22)) fun e w' => ∃ a c, e = .returned (.slice a 32 c) ∧ Own w' w.heap.size (.slice a 32 c) (macN key data) ∧ Below w.heap.size w w') := fun w a b c => macOver1_c p p2 q q2 key data w a b c h1 (by omega)
    clear hm
    go_enter Tryd.func18, Tryd.ntmps18
    go_wp2_with fail
    have K2 := K.out (w.alloc (.cells #[.int .i64 0, .slice none 0 0] 24)) (hr.keep (alloc_below _ _)) (hr2.keep (alloc_below _ _)) (hT.keep (alloc_below _ _))
    rw [size_alloc] at K2
    refine K2.mono ?_
    rintro e w1 ⟨a, cap, rfl, ho, hb⟩
    rw [← size_alloc w (.cells #[.int .i64 0, .slice none 0 0] 24)] at hb
    obtain ⟨hc, hf⟩ := bcell hb
    rw [size_alloc] at hc hf
    have hres := Below.res hb
    clear K2
    go_wp2
    refine bodyPost_ret (v := .agg #[.int .i64 0, .slice a 32 cap]) (by simp [results, Tryd.results18, go_sem, hc]) rfl ⟨_, rfl, ?_, (hres.setCell (Nat.le_refl _) _).setCell (Nat.le_refl _) _⟩
    exact ((ho.set (Nat.lt_succ_self _) _).set (Nat.lt_succ_self _) _).lower (Nat.le_succ _)
  · have hm : macOk key data = false := by
      simp only [macOk, keyB, dataB, Bool.and_eq_false_iff, decide_eq_false_iff_not]
      omega
    rw [show macC key data = 2 by simp [macC, hm], show macL key data = [] by simp [macL, hm]]
    clear hm
    by_cases h1 : key.length ≤ 64
    · have h2 : ¬ data.length ≤ 500 := fun h => hc ⟨h1, h⟩
      go_enter Tryd.func18, Tryd.ntmps18
      go_wp2
      exact bodyPost_ret (v := .agg #[.int .i64 2, .slice none 0 0]) (by simp [results, Tryd.results18, go_sem]) rfl ⟨_, rfl, Own_nil _ _, alloc_below _ _⟩
    · go_enter Tryd.func18, Tryd.ntmps18
      go_wp2
      exact bodyPost_ret (v := .agg #[.int .i64 2, .slice none 0 0]) (by simp [results, Tryd.results18, go_sem]) rfl ⟨_, rfl, Own_nil _ _, alloc_below _ _⟩


/-- copy(d, s) into a row that is known whole, where one looks at other rows behind it: only that row has changed. -/
theorem wpList_copy_over {P : Program} {w : World} {ops : Array Oper} {rest : List Oper} {o : Oper} {a : Act} {Q : Exit → Act → World → Prop} (hgd : o.guard = none) (d s : Operand) (dT sT : TypeId)
    (ho : o.op = .call { callee := .builtin .copy, args := #[d, s], argTypes := #[dT, sT] }) (elem : TypeId) (hu : P.underlying dT = some (.slice elem)) (hsz : (P.info? elem).map (·.size) = some 1)
    (dp sp : Option Addr) (dn dc sn sc : Nat) (hd : a.eval d = .slice dp dn dc) (hs : a.eval s = .slice sp sn sc) (g off : Nat) (old : List Value) (t : TypeId) (hg : Arr w g t old) (cs : List Value) (hn : cs.length = Nat.min sn dn)
    (hp : 0 < cs.length → dp = some ⟨g, off, none⟩ ∧ ∃ ad, sp = some ad ∧ ∀ j v, cs[j]? = some v → w.cell? (ad.add j) = some v) (hf : off + cs.length ≤ old.length) (h1 : ∀ v ∈ cs, v.oneCell' = true)
    (h : ∀ w', Hid (Arr w' g t (splice old off cs)) → w.grownBy w' (some g) → wpList P ops Q rest (a.put o.dst (goInt cs.length)) w') : wpList P ops Q (o :: rest) a w := by
  cases cs with
  | nil =>
    refine wpList_copy_nothing hgd d s dT sT ho elem hu hsz dp sp dn dc sn sc hd hs (by simpa using hn.symm) ?_
    refine h w ?_ (World.grownBy.refl _ _)
    show Arr _ _ _ _
    simpa [splice] using hg
  | cons c cs =>
    obtain ⟨rfl, ad, rfl, hsrc⟩ := hp (by simp)
    refine wpList_copy_own hgd d s dT sT ho elem hu hsz g off dn dc ad sn sc hd hs old.toArray t hg (c :: cs) hn hsrc (by simpa using hf) h1 ?_
    refine h _ ?_ ⟨rfl, rfl, rfl, by rw [size_setRow]; exact Nat.le_refl _, fun k hk hne => setRow_other w g k _ (fun e => hne (by rw [e]))⟩
    have h2 := hg.row (splice old off (c :: cs))
    show Arr _ _ _ _
    simpa [splice] using h2
theorem Rd.addr_take {w : World} {p : Option Addr} {q : Nat} {bs : List UInt8} (h : Rd w p q bs) (c : Nat) (hp : 0 < bs.length) : ∃ ad, p = some ad ∧ ∀ j v, ((bs.take c).map u8v)[j]? = some v → w.cell? (ad.add j) = some v := by
  obtain ⟨ad, e, hc⟩ := h.addr hp
  refine ⟨ad, e, fun j v hv => hc j v ?_⟩
  rw [List.map_take, List.getElem?_take] at hv
  split at hv
  · exact hv
  · cases hv
theorem expand_piece (key info : List UInt8) (n k c : Nat) (hk : 32 * k < n) (hc : c = min 32 (n - 32 * k)) : ((expandN key info n).drop (32 * k)).take c = (lastN key info (k + 1)).take c := by
  have h1 := outN_take key info (k + 1) ((n + 31) / 32) (by omega)
  have h2 : (outN key info (k + 1)).drop (32 * k) = lastN key info (k + 1) := by
    rw [outN, ← outN_len key info k, List.drop_left]
  have h3 : ((outN key info ((n + 31) / 32)).drop (32 * k)).take 32 = lastN key info (k + 1) := by
    rw [← h2, ← h1, List.drop_take, show 32 * (k + 1) - 32 * k = 32 by omega]
  rw [expandN, List.drop_take, List.take_take, ← h3, List.take_take]
  congr 1
  omega




end Go.Proofs.YtajefbaoncmieahDoor
