/- The functions of chapter 9 in the program that go by keys: KeysOf, ownStream, keyAndNonce, at every argument that they are called at, where the two tables hold what the program's text lays (Tabs). What was there stays. -/
import Derived.Test.YtdemfbbjdnjolaaDoorRecF
import Derived.Test.YtdemfbbjdnjolaaDoorRecT
import Derived.Test.YtdemfbbjdnjolaaDoorKeyI
import Derived.Test.YtdemfbbjdnjolaaDoorStrI
import Derived.Test.YtdemfbbjdnjolaaDoorDigI
import Derived.Test.YtdemfbbjdnjolaaDoorRows
import Derived.Lib.LaidTab
import Derived.Stop.LaidErr
import Derived.Test.YtdemfbbjdnjolaaDoorJoint12
import Derived.Test.YtdemfbbjdnjolaaDoorCopy
namespace Go.Proofs.YtdemfbbjdnjolaaDoor
open Go.ChangeShapes Go.WideShapes Go.ChangeAt Go.RowKit

theorem expR_c (l : List UInt8) (n : Nat) (hl : labelOk l = true) (hn : n ≤ 255) (p : Option Addr) (q : Nat) (s : List UInt8) (w : World) (hr : Rd w p q s) (hk : s.length = 32) (hT : Tabs w) :
    Calls Tryd.prog 43 #[.slice p s.length q, .string (strB l), .slice none 0 0, .int .i64 n] w fun e w' => ∃ u, e = .returned (.agg #[.int .i64 0, u]) ∧ Own w' w.heap.size u (expLabN s l [] n) ∧ Below w.heap.size w w' := by
  have hl2 : l.length ≤ 1048576 := by
    have h := hl
    unfold labelOk at h
    simp at h
    omega
  have h := implExpL_c p none q 0 s l [] n w hr (rd_nix w) hl2 hT
  have hc : elC s l [] (n : Int) = 0 := by
    unfold elC labelC
    simp [keyB, hk, hl, inB]
    omega
  have hL : elL s l [] (n : Int) = expLabN s l [] n := by
    unfold elL
    rw [if_pos hc]
    rfl
  rw [hc, hL] at h
  exact h
set_option maxRecDepth 4000 in
set_option maxHeartbeats 1000000 in
theorem keysOf_c (s : List UInt8) (p : Option Addr) (q : Nat) (w : World) (hr : Rd w p q s) (h1 : is32 s = true) (hT : Tabs w) :
    Calls Tryd.prog 15 #[.slice p s.length q] w fun e w' => ∃ u v m, e = .returned (.agg #[.int .i64 0, u, v]) ∧ Own w' w.heap.size u (keyN s) ∧ Own w' w.heap.size v (baseN s) ∧ (∀ k, u.ownBlock = some k → k < m) ∧ (∀ k, v.ownBlock = some k → m ≤ k) ∧ Below w.heap.size w w' := by
  have hl : s.length = 32 := by simpa [is32] using h1
  have HL : Hid (s.length = 32) := hl
  have BW := alloc_below w (.cells #[.int .i64 0, .slice none 0 0, .slice none 0 0] 35)
  have R := Arr.new w [.int .i64 0, .slice none 0 0, .slice none 0 0] 35
  have hz0 : Hid ((w.alloc (.cells #[.int .i64 0, .slice none 0 0, .slice none 0 0] 35)).heap.size = w.heap.size + 1) := size_alloc _ _
  have HR : Hid (Rd w p q s) := hr
  have HT : Hid (Tabs w) := hT
  have K1 : Hid (∀ w, Rd w p q s → Tabs w → Calls Tryd.prog 43 #[.slice p s.length q, .string ⟨#[107, 101, 121]⟩, .slice none 0 0, .int .i64 32] w fun e w' => ∃ u, e = .returned (.agg #[.int .i64 0, u]) ∧ Own w' w.heap.size u (keyN s) ∧ Below w.heap.size w w') := fun w h t => expR_c keyLab 32 (by decide) (by decide) p q s w h HL.out t
  have K2 : Hid (∀ w, Rd w p q s → Tabs w → Calls Tryd.prog 43 #[.slice p s.length q, .string ⟨#[105, 118]⟩, .slice none 0 0, .int .i64 12] w fun e w' => ∃ u, e = .returned (.agg #[.int .i64 0, u]) ∧ Own w' w.heap.size u (baseN s) ∧ Below w.heap.size w w') := fun w h t => expR_c ivLab 12 (by decide) (by decide) p q s w h HL.out t
  have f1 := bytes_f1 0
  clear hr hT hl
  go_enter Tryd.func15, Tryd.ntmps15
  go_wp2_with fail
  refine (isKeyR_c p q s _).mono ?_
  rintro e w1 ⟨rfl, hw⟩
  subst w1
  rw [h1]
  go_wp2_with fail
  refine (K1.out _ (HR.out.keep BW) (HT.out.keep BW)).mono ?_
  rintro e w1 ⟨u1, rfl, k1, hb1⟩
  rw [hz0.out] at k1
  obtain ⟨a1, cc1, rfl, -⟩ := k1.rd
  have hz1 : Hid (w.heap.size + 1 ≤ w1.heap.size) := by have h := hb1.size; rw [hz0.out] at h; exact h
  replace BW := Below.step BW hb1
  replace R := R.stay hb1
  have hk1 : Hid (∀ k, (Value.slice a1 (keyN s).length cc1).ownBlock = some k → k < w1.heap.size) := k1.lt
  go_wp2_with fail
  refine (K2.out _ (HR.out.keep BW) (HT.out.keep BW)).mono ?_
  rintro e w2 ⟨u2, rfl, k2, hb2⟩
  obtain ⟨a2, cc2, rfl, -⟩ := k2.rd
  have hk2 : Hid (∀ k, (Value.slice a2 (baseN s).length cc2).ownBlock = some k → w1.heap.size ≤ k) := k2.ge
  replace k2 := k2.lower hz1.out
  replace BW := Below.step BW hb2
  replace R := R.stay hb2
  replace k1 := k1.stay hb2
  have c0 := (R.cell 0).trans (show _ = some _ from rfl)
  have c1 := (R.cell 1).trans (show _ = some _ from rfl)
  have c2 := (R.cell 2).trans (show _ = some _ from rfl)
  have fz := R.frozen
  clear R hb1 hb2
  go_wp2_with fail
  exact bodyPost_ret (v := .agg #[.int .i64 0, .slice a1 (keyN s).length cc1, .slice a2 (baseN s).length cc2]) (by simp [results, Tryd.results15, go_sem, c0, c1, c2]) rfl ⟨_, _, w1.heap.size, rfl, (((k1.set (Nat.lt_succ_self _) _).set (Nat.lt_succ_self _) _).set (Nat.lt_succ_self _) _).lower (Nat.le_succ _), (((k2.set (Nat.lt_succ_self _) _).set (Nat.lt_succ_self _) _).set (Nat.lt_succ_self _) _).lower (Nat.le_succ _), hk1.out, hk2.out, ((BW.setCell (Nat.le_refl _) _).setCell (Nat.le_refl _) _).setCell (Nat.le_refl _) _⟩
set_option maxRecDepth 4000 in
set_option maxHeartbeats 1000000 in
theorem implKo_k (s : List UInt8) (v : Value) (w : World) (h : bytC.rep w s [v]) (hT : Tabs w) :
    Calls Tryd.prog 15 #[v] w fun e w' => ∃ us fp, e = .returned (.agg us.toArray) ∧ keysResultC.own w' w.heap.size (koD s) us fp ∧ Below w.heap.size w w' := by
  obtain ⟨p, q, e2, r⟩ := h
  simp only [List.cons.injEq, and_true] at e2
  subst e2
  cases h1 : is32 s
  · rw [show koD s = (1, [], []) by simp [koD, h1]]
    go_enter Tryd.func15, Tryd.ntmps15
    go_wp2_with fail
    refine (isKeyR_c p q s _).mono ?_
    rintro e w1 ⟨rfl, hw⟩
    subst w1
    rw [h1]
    go_wp2_with fail
    exact bodyPost_ret (v := .agg #[.int .i64 1, .slice none 0 0, .slice none 0 0]) (by simp [results, Tryd.results15, go_sem]) rfl ⟨[.int .i64 1, .slice none 0 0, .slice none 0 0], _, rfl, keys_own 0 (Own_nil _ _) (Own_nil _ _) (fun k hk => by simp [Value.ownBlock] at hk) (fun k hk => by simp [Value.ownBlock] at hk), alloc_below _ _⟩
  · rw [show koD s = (0, keyN s, baseN s) by simp [koD, h1]]
    refine (keysOf_c s p q w r h1 hT).mono ?_
    rintro e w1 ⟨u, v, m, rfl, k1, k2, hm1, hm2, hb⟩
    exact ⟨[.int .i64 0, u, v], _, rfl, keys_own m k1 k2 hm1 hm2, hb⟩
set_option maxRecDepth 4000 in
set_option maxHeartbeats 1000000 in
theorem ownStream_c (x : StreamD) (p : Option Addr) (q : Nat) (w : World) (hr : Rd w p q x.1) (hl : x.1.length ≤ 1000) :
    Calls Tryd.prog 30 #[.agg #[.slice p x.1.length q, .int .i64 x.2.1, .int .i64 x.2.2]] w fun e w' => ∃ u b, e = .returned (.pointer (some ⟨b, 0, none⟩)) ∧ Own w' w.heap.size u x.1 ∧ Arr w' b 25 [u, .int .i64 x.2.1, .int .i64 x.2.2] ∧ w.heap.size < b ∧ (∀ k, u.ownBlock = some k → k < b) ∧ Below w.heap.size w w' := by
  have BW := alloc_below w (.cells #[.slice p x.1.length q, .int .i64 x.2.1, .int .i64 x.2.2] 25)
  have A := Arr.new w [.slice p x.1.length q, .int .i64 x.2.1, .int .i64 x.2.2] 25
  have hz0 : Hid ((w.alloc (.cells #[.slice p x.1.length q, .int .i64 x.2.1, .int .i64 x.2.2] 25)).heap.size = w.heap.size + 1) := size_alloc _ _
  have r1 := hr.keep BW
  have g0 := HW.at ((A.cell 0).trans (show _ = some _ from rfl))
  have g1 := HW.at ((A.cell 1).trans (show _ = some _ from rfl))
  have g2 := HW.at ((A.cell 2).trans (show _ = some _ from rfl))
  have hne := HW.some (w.alloc (.cells #[.slice p x.1.length q, .int .i64 x.2.1, .int .i64 x.2.2] 25))
  clear hr A
  go_enter Tryd.func30, Tryd.ntmps30
  go_wp2_with fail
  refine wp_region_pick [0, 1, 3, 4, 5, 6] 7 1 3 rfl rfl rfl (by kernel_rfl) (by kernel_rfl) (by kernel_rfl) (by kernel_rfl) ?_
  simp only [opsAt, List.getElem?_toArray, List.getElem?_cons_zero, List.getElem?_cons_succ]
  repeat (go_big_quiet_step (fail))
  refine wpQuiet_nil ?_
  refine wpM_only (i := 2) (by kernel_rfl) ?_
  refine mOp_call rfl (by go_simp) 57 _ #[.slice p x.1.length q] (fun w => by go_simp) rfl ?_
  rintro _ ⟨s1, rfl⟩
  refine (bytesClone_c p q x.1 _ (r1.keep s1.h) (by omega)).mono ?_
  rintro e w1 ⟨u, rfl, ho, hb⟩
  refine ⟨_, rfl, ⟨⟨_, hb⟩, rfl⟩, ?_⟩
  have hbg := Below.step s1.h hb
  replace BW := Below.step BW hbg
  replace ho := ho.lower (B' := w.heap.size + 1) (by have h := s1.h.size; rw [hz0.out] at h; exact h)
  have hz1 : Hid (w.heap.size + 1 ≤ w1.heap.size) := by have h := hbg.size; rw [hz0.out] at h; exact h
  obtain ⟨pu, qu, rfl, -⟩ := ho.rd
  clear hbg hb r1 g0 g1 g2 hne
  refine wpM_end (by kernel_rfl) rfl (by kernel_rfl) (by decide) ?_
  rintro _ ⟨sz, rfl⟩
  simp only [List.drop_succ_cons, List.drop_zero]
  have hbz := sz.h
  replace BW := Below.step BW hbz
  have hz2 : Hid (w.heap.size + 1 ≤ sz.w.heap.size) := Nat.le_trans hz1.out hbz.size
  replace ho := ho.stay hbz
  generalize sz.w = w2 at *
  go_wp2_with fail
  go_ret
  exact ⟨_, w2.heap.size, rfl, (ho.lower (Nat.le_succ _)).stay (alloc_below _ _), Arr.new w2 [_, _, _] _, hz2.out, ho.lt, Below.mk BW _⟩
end Go.Proofs.YtdemfbbjdnjolaaDoor

/- What the rows' list of package-level variables gives: the two tables of the digest hold what the program's text lays (Tabs). -/
namespace Go.Proofs.YtdemfbbjdnjolaaDoor
open Go.RowKit

theorem gStart : Tryd.prog.globalNamed "loop.example/g00375/impl.digestStart" = some 1 := by kernel_rfl
theorem gKeys : Tryd.prog.globalNamed "loop.example/g00375/impl.roundKeys" = some 2 := by kernel_rfl
theorem gStartT : (Tryd.prog.globals[1]?).map (·.type) = some 152 := by kernel_rfl
theorem gKeysT : (Tryd.prog.globals[2]?).map (·.type) = some 157 := by kernel_rfl
theorem cellsU : Tryd.prog.cellsOf 97 = 1 := by kernel_rfl
theorem cellsE : Tryd.prog.cellsOf 152 = 8 := by kernel_rfl
theorem cellsK : Tryd.prog.cellsOf 157 = 64 := by kernel_rfl

theorem heap_of_tab {P : Program} {w : World} {name : String} {k : IntKind} {zs : List Int} {g : Nat} (h : Lib.TabIs P w name k zs) (hg : P.globalNamed name = some g) :
    ∃ t fr, w.heap[g]? = some (.cells (zs.map fun z => Value.int k z).toArray t fr) := by
  unfold Lib.TabIs World.var? at h
  rw [hg, Option.bind_some] at h
  split at h
  · rename_i cs t fr e
    rw [Option.some.inj h] at e
    exact ⟨t, fr, e⟩
  · cases h
theorem u32_list (l : List Nat) : (l.map Int.ofNat).map (fun z => Value.int .u32 z) = l.map u32v := by simp [u32v]

theorem tabs_of {W : World} (h : laidMet Tryd.prog [("loop.example/g00375/impl.digestStart", Rows.laid_loop_example_g00375_impl_digestStart), ("loop.example/g00375/impl.roundKeys", Rows.laid_loop_example_g00375_impl_roundKeys)] W) : Tabs W := by
  have h1 := heap_of_tab (Lib.tabIs_of_head (k := .u32) (zs := startN.list.map Int.ofNat) gStart gStartT Tryd.underlying152 Tryd.underlying97 cellsU cellsE h) gStart
  have h2 := heap_of_tab (Lib.tabIs_of_head (k := .u32) (zs := keysN.map Int.ofNat) gKeys gKeysT Tryd.underlying157 Tryd.underlying97 cellsU cellsK h.tail) gKeys
  rw [u32_list] at h1 h2
  exact ⟨h1, h2⟩
end Go.Proofs.YtdemfbbjdnjolaaDoor

/- The contracts of chapter 5's functions in the specification, at every argument: TagOf, SealBytes, OpenBytes: code and bytes. -/
namespace Go.Proofs.YtdemfbbjdnjolaaDoor
open Go.ChangeShapes Go.WideShapes Go.ChangeAt Go.RowKit

def tgC (key nonce extra sealed : List UInt8) : Int := if sealC key nonce extra = 0 then (if sealed.length ≤ 220 then 0 else 2) else sealC key nonce extra
def tgL (key nonce extra sealed : List UInt8) : List UInt8 := if tgC key nonce extra sealed = 0 then tagN key nonce extra sealed else []
def slL (key nonce extra plain : List UInt8) : List UInt8 := if tgC key nonce extra plain = 0 then sealN key nonce extra plain else []
def opC (key nonce extra sealed : List UInt8) : Int := if sealC key nonce extra = 0 then openC key nonce extra sealed else sealC key nonce extra
def opL (key nonce extra sealed : List UInt8) : List UInt8 := if opC key nonce extra sealed = 0 then openL key nonce extra sealed else []
theorem tgC_zero {key nonce extra sealed : List UInt8} (h : tgC key nonce extra sealed = 0) : sealC key nonce extra = 0 ∧ sealed.length ≤ 220 := by
  unfold tgC at h
  split at h
  · rename_i h1
    split at h
    · rename_i h2
      exact ⟨h1, h2⟩
    · cases h
  · rename_i h1
    exact absurd h h1
theorem opC_zero {key nonce extra sealed : List UInt8} (h : opC key nonce extra sealed = 0) : sealC key nonce extra = 0 ∧ openC key nonce extra sealed = 0 := by
  unfold opC at h
  split at h
  · rename_i h1
    exact ⟨h1, h⟩
  · rename_i h1
    exact absurd h h1
theorem tgL_len (key nonce extra sealed : List UInt8) : (tgL key nonce extra sealed).length ≤ 1048576 := by
  unfold tgL; split
  · rw [tagN_len]; decide
  · simp
theorem slL_len (key nonce extra plain : List UInt8) : (slL key nonce extra plain).length ≤ 1048576 := by
  unfold slL; split
  · rename_i h
    have := (tgC_zero h).2
    rw [sealN_len]; omega
  · simp
theorem opL_len (key nonce extra sealed : List UInt8) : (opL key nonce extra sealed).length ≤ 1048576 := by
  unfold opL; split
  · exact openL_len _ _ _ _
  · simp



end Go.Proofs.YtdemfbbjdnjolaaDoor

/- The contracts of the laws' helpers on BytesResult: eqBytesResult answers true at equal answers; markBytesResult lays marks into the answer's own row; heldBytesResult finds them. For at most 1048576 bytes. -/
namespace Go.Proofs.YtdemfbbjdnjolaaDoor
open Go.ChangeShapes Go.WideShapes Go.ChangeAt Go.RowKit

end Go.Proofs.YtdemfbbjdnjolaaDoor

/- Bytes that lie in a row of their own whose block bears another type than a made row's (an array that was cut whole): 'OwnT t'. What keeps it, and the contracts of the laws' helpers on such answers. -/
namespace Go.Proofs.YtdemfbbjdnjolaaDoor
open Go.ChangeShapes Go.WideShapes Go.ChangeAt Go.RowKit

def OwnT (t : TypeId) (w : World) (B : Nat) (v : Value) (bs : List UInt8) : Prop := w.ownsRow B t 1 v bs.length (bs.map u8v)
theorem OwnT.rd {t : TypeId} {w : World} {B : Nat} {v : Value} {bs : List UInt8} (h : OwnT t w B v bs) : ∃ a cap, v = .slice a bs.length cap ∧ Rd w a cap bs := by
  have h0 := h
  rcases h.2 with ⟨rfl, hn⟩ | ⟨g, cap, cur, rfl, hb, hg, hle, hm, hs, ht⟩
  · exact ⟨none, 0, by rw [hn], by omega, by simp [maxLen], fun _ => rfl, fun hp => by omega⟩
  · refine ⟨_, cap, rfl, hle, hm, fun hh => by simp at hh, fun _ => ⟨g, 0, rfl, fun i hi => ?_⟩⟩
    have := World.ownsRow.cellAt h0 i (by omega)
    rw [Nat.zero_add, this, u8v_at hi]
theorem OwnT.rds {t : TypeId} {w : World} {B : Nat} {a : Option Addr} {n cap : Nat} {bs : List UInt8} (h : OwnT t w B (.slice a n cap) bs) : Rd w a cap bs := by
  obtain ⟨a', cap', e, hr⟩ := h.rd
  simp only [Value.slice.injEq] at e
  obtain ⟨rfl, -, rfl⟩ := e
  exact hr
theorem OwnT.keep {t : TypeId} {w w' : World} {B N : Nat} {v : Value} {bs : List UInt8} (h : OwnT t w B v bs) (hb : Below N w w') (hn : ∀ k, v.ownBlock = some k → k < N) : OwnT t w' B v bs := by
  obtain ⟨h1, h2⟩ := h
  refine ⟨h1, ?_⟩
  rcases h2 with h2 | ⟨g, cap, cur, rfl, hg, hh, r⟩
  · exact .inl h2
  · exact .inr ⟨g, cap, cur, rfl, hg, (hb.block g (hn g rfl)).trans hh, r⟩
theorem OwnT.stay {t : TypeId} {w w' : World} {B : Nat} {v : Value} {bs : List UInt8} (h : OwnT t w B v bs) (hb : Below w.heap.size w w') : OwnT t w' B v bs :=
  h.keep hb (fun k hk => (World.ownsRow.lt h k hk).2)
theorem OwnT.set {t : TypeId} {w : World} {B : Nat} {v : Value} {bs : List UInt8} (h : OwnT t w B v bs) {a : Addr} (ha : a.block < B) (u : Value) : OwnT t (w.setCell a u) B v bs :=
  ownsRow_setCell_below h ha u
theorem OwnT.lower {t : TypeId} {w : World} {B B' : Nat} {v : Value} {bs : List UInt8} (h : OwnT t w B v bs) (hb : B' ≤ B) : OwnT t w B' v bs := by
  obtain ⟨h1, h2⟩ := h
  refine ⟨h1, ?_⟩
  rcases h2 with h2 | ⟨g, cap, cur, rfl, hg, r⟩
  · exact .inl h2
  · exact .inr ⟨g, cap, cur, rfl, by omega, r⟩
theorem OwnT.lt {t : TypeId} {w : World} {B : Nat} {v : Value} {bs : List UInt8} (h : OwnT t w B v bs) : ∀ k, v.ownBlock = some k → k < w.heap.size := fun k hk => (World.ownsRow.lt h k hk).2
theorem OwnT.ge {t : TypeId} {w : World} {B : Nat} {v : Value} {bs : List UInt8} (h : OwnT t w B v bs) : ∀ k, v.ownBlock = some k → B ≤ k := fun k hk => (World.ownsRow.lt h k hk).1
theorem OwnT.other {t : TypeId} {w w' : World} {B : Nat} {v : Value} {bs : List UInt8} {row : Option Nat} (h : OwnT t w B v bs) (hg : w.grownBy w' row) (hne : ∀ k, v.ownBlock = some k → row ≠ some k) : OwnT t w' B v bs := by
  obtain ⟨h1, h2⟩ := h
  refine ⟨h1, ?_⟩
  rcases h2 with h2 | ⟨g, cap, cur, rfl, hb, hh, r⟩
  · exact .inl h2
  · exact .inr ⟨g, cap, cur, rfl, hb, (hg.block g (Array.getElem?_eq_some_iff.1 hh).1 (fun e => hne g rfl e.symm)).trans hh, r⟩
theorem OwnT.none (t : TypeId) (w : World) (B : Nat) : OwnT t w B (.slice none 0 0) [] := ⟨by simp, .inl ⟨rfl, rfl⟩⟩

set_option maxRecDepth 4000 in
set_option maxHeartbeats 1000000 in
theorem markByteS_t (t : TypeId) (B : Nat) (v : Value) (bs : List UInt8) (m : Nat) (w : World) (ho : OwnT t w B v bs) (hm : m + bs.length ≤ 1000000000000) :
    Calls Tryd.prog 18 #[v, .int .i64 m] w fun e w' => e = .returned (.int .i64 ((m : Int) + (bs.length : Int))) ∧ OwnT t w' B v (marks m bs.length) ∧ w.grownBy w' v.ownBlock := by
  obtain ⟨h1, h2⟩ := id ho
  rcases h2 with ⟨rfl, hn⟩ | ⟨g, cap, cur, rfl, hb, hg, hle, hcm, hs, ht⟩
  · have e : bs = [] := List.length_eq_zero_iff.1 hn
    subst e
    go_enter Tryd.func18, Tryd.ntmps18
    go_wp2
    refine wp_loop_rounds 1 ?_
    rw [rounds_succ]
    go_wp2
    go_ret
    exact ⟨by simp, ho, World.grownBy.refl _ _⟩
  · clear h1 hb hg hs ht cur
    go_enter Tryd.func18, Tryd.ntmps18
    go_wp2
    go_loopw [1, 5] (fun q i wr => ∃ j : Nat, j ≤ bs.length ∧ i = .int .i64 j ∧ q = .int .i64 ((m : Int) + j) ∧ OwnT t wr B (.slice (some ⟨g, 0, none⟩) bs.length cap) (marked bs m j) ∧ w.grownBy wr (some g))
      (fun _ i _ => bs.length - (intOf i).toNat)
    case atStart => exact ⟨0, Nat.zero_le _, rfl, by simp, by rw [marked_zero]; exact ho, World.grownBy.refl _ _⟩
    case round =>
      obtain ⟨j, hj, rfl, rfl, hown, hgr⟩ := hrel
      have hml := marked_len bs m j hj
      by_cases hlt : j < bs.length
      · unfold OwnT at hown
        rw [hml] at hown
        have hcy : wr.cell? ⟨g, j, none⟩ = some (.int .u8 (at8 (marked bs m j) j)) := by rw [World.ownsRow.cellAt hown j (by omega), u8v_at (by omega)]
        have hfy : wr.frozen? ⟨g, j, none⟩ = false := World.ownsRow.frozenAt hown j
        have R := World.ownsRow.stored hown j (.int .u8 (((m : Int) + j) % 256))
        rw [marked_set bs m j hlt] at R
        have hml2 := marked_len bs m (j + 1) hlt
        clear hown hml ho
        go_wp2
        go_roundw
        case rel => exact ⟨j + 1, by omega, by go_num, by go_num, by unfold OwnT; rw [hml2]; exact R.1, grownBy_trans hgr R.2⟩
        case measure => simp [intOf]; omega
      · have e : j = bs.length := by omega
        subst e
        rw [marked_all] at hown
        go_wp2
        go_ret
        exact ⟨rfl, hown, hgr⟩
end Go.Proofs.YtdemfbbjdnjolaaDoor

