/- The contracts of the laws' helpers on BytesResult: eqBytesResult answers true at equal answers; markBytesResult lays marks into the answer's own row; heldBytesResult finds them. For at most 1048576 bytes. -/
import Derived.Test.YtpcgpefefklfoaaDoorCopy
namespace Go.Proofs.YtpcgpefefklfoaaDoor
open Go.ChangeShapes Go.WideShapes Go.ChangeAt Go.RowKit

set_option maxRecDepth 4000 in
set_option maxHeartbeats 1000000 in
theorem eqBytes_c (c : Int) (a b : Option Addr) (ca cb : Nat) (bs : List UInt8) (w : World) (hra : Rd w a ca bs) (hrb : Rd w b cb bs) :
    Calls Tryd.prog 25 #[.agg #[.int .i64 c, .slice a bs.length ca], .agg #[.int .i64 c, .slice b bs.length cb]] w fun e w' => e = .returned (.bool true) ∧ Below w.heap.size w w' := by
  go_enter Tryd.func25, Tryd.ntmps25
  go_wp2_with fail
  refine (eqByteS_c _ _ _ _ bs _ ?_ ?_).mono ?_
  · exact hra.keep (((Below.refl _ _).alloc (Nat.le_refl _) _).alloc (by simp) _)
  · exact hrb.keep (((Below.refl _ _).alloc (Nat.le_refl _) _).alloc (by simp) _)
  · rintro e w1 ⟨rfl, hb1⟩
    go_wp2
    go_ret
    exact ⟨rfl, Below.step (((Below.refl _ _).alloc (Nat.le_refl _) _).alloc (by simp) _) hb1⟩

set_option maxRecDepth 4000 in
set_option maxHeartbeats 1000000 in
theorem markBytes_c (c : Int) (B : Nat) (v : Value) (bs : List UInt8) (w : World) (m : Nat) (ho : Own w B v bs) (hm : m + bs.length ≤ 1048577) :
    Calls Tryd.prog 28 #[.agg #[.int .i64 c, v], .int .i64 m] w fun e w' => e = .returned (.int .i64 ((m : Int) + (bs.length : Int))) ∧ Own w' B v (marks m bs.length) ∧ w.grownBy w' v.ownBlock := by
  go_enter Tryd.func28, Tryd.ntmps28
  go_wp2_with fail
  refine (markByteS_c B v bs m _ (ho.stay ((Below.refl _ _).alloc (Nat.le_refl _) _)) (by omega)).mono ?_
  rintro e w1 ⟨rfl, ho1, hg1⟩
  go_wp2
  go_ret
  exact ⟨rfl, ho1, grownBy_trans (World.grownBy_alloc _ _ _) hg1⟩

set_option maxRecDepth 4000 in
set_option maxHeartbeats 1000000 in
theorem heldBytes_c (c : Int) (a : Option Addr) (cap n m : Nat) (w : World) (hr : Rd w a cap (marks m n)) (hm : m + n ≤ 1048577) :
    Calls Tryd.prog 29 #[.agg #[.int .i64 c, .slice a n cap], .int .i64 m] w fun e w' => e = .returned (.int .i64 ((m : Int) + (n : Int))) ∧ Below w.heap.size w w' := by
  go_enter Tryd.func29, Tryd.ntmps29
  go_wp2_with fail
  refine (heldByteS_c a cap n m _ (hr.keep ((Below.refl _ _).alloc (Nat.le_refl _) _)) hm).mono ?_
  rintro e w1 ⟨rfl, rfl⟩
  go_wp2
  go_ret
  exact ⟨rfl, (Below.refl _ _).alloc (Nat.le_refl _) _⟩

theorem markBytes1_c (c : Int) (B : Nat) (v : Value) (bs : List UInt8) (w : World) (ho : Own w B v bs) (hm : bs.length ≤ 1048576) :
    Calls Tryd.prog 28 #[.agg #[.int .i64 c, v], .int .i64 1] w fun e w' => e = .returned (.int .i64 (1 + (bs.length : Int))) ∧ Own w' B v (marks 1 bs.length) ∧ w.grownBy w' v.ownBlock :=
  markBytes_c c B v bs w 1 ho (by omega)
theorem heldBytes1_c (c : Int) (B : Nat) (a : Option Addr) (cap n : Nat) (w : World) (ho : Own w B (.slice a n cap) (marks 1 n)) (hm : n ≤ 1048576) :
    Calls Tryd.prog 29 #[.agg #[.int .i64 c, .slice a n cap], .int .i64 1] w fun e w' => e = .returned (.int .i64 (1 + (n : Int))) ∧ Below w.heap.size w w' :=
  heldBytes_c c a cap n 1 w (Rd.own ho) (by omega)
theorem eqBytes2_c (c : Int) (B1 B2 : Nat) (a b : Option Addr) (ca cb : Nat) (bs : List UInt8) (w : World) (h1 : Own w B1 (.slice a bs.length ca) bs) (h2 : Own w B2 (.slice b bs.length cb) bs) :
    Calls Tryd.prog 25 #[.agg #[.int .i64 c, .slice a bs.length ca], .agg #[.int .i64 c, .slice b bs.length cb]] w fun e w' => e = .returned (.bool true) ∧ Below w.heap.size w w' :=
  eqBytes_c c a b ca cb bs w (Rd.own h1) (Rd.own h2)
end Go.Proofs.YtpcgpefefklfoaaDoor

/- Bytes that lie in a row of their own whose block bears another type than a made row's (an array that was cut whole): 'OwnT t'. What keeps it, and the contracts of the laws' helpers on such answers. -/
namespace Go.Proofs.YtpcgpefefklfoaaDoor
open Go.ChangeShapes Go.WideShapes Go.ChangeAt Go.RowKit

def OwnT (t : TypeId) (w : World) (B : Nat) (v : Value) (bs : List UInt8) : Prop := w.ownsRow B t 1 v bs.length (bs.map u8v)
theorem OwnT.rd {t : TypeId} {w : World} {B : Nat} {v : Value} {bs : List UInt8} (h : OwnT t w B v bs) : ∃ a cap, v = .slice a bs.length cap ∧ Rd w a cap bs := by
  have h0 := h
  rcases h.2 with ⟨rfl, hn⟩ | ⟨g, cap, cur, rfl, hb, hg, hle, hm, hs, ht⟩
  · exact ⟨none, 0, by rw [hn], by omega, by simp [maxLen], fun _ => rfl, fun hp => by omega⟩
  · refine ⟨_, cap, rfl, hle, hm, fun hh => by simp at hh, fun _ => ⟨g, 0, rfl, fun i hi => ?_⟩⟩
    have := World.ownsRow.cellAt h0 i (by omega)
    rw [Nat.zero_add, this, u8v_at hi]
theorem OwnT.rds {t : TypeId} {w : World} {B : Nat} {a : Option Addr} {n cap : Nat} {bs : List UInt8} (h : OwnT t w B (.slice a n cap) bs) : Rd w a cap bs := by
  obtain ⟨a', cap', e, hr⟩ := h.rd
  simp only [Value.slice.injEq] at e
  obtain ⟨rfl, -, rfl⟩ := e
  exact hr
theorem OwnT.keep {t : TypeId} {w w' : World} {B N : Nat} {v : Value} {bs : List UInt8} (h : OwnT t w B v bs) (hb : Below N w w') (hn : ∀ k, v.ownBlock = some k → k < N) : OwnT t w' B v bs := by
  obtain ⟨h1, h2⟩ := h
  refine ⟨h1, ?_⟩
  rcases h2 with h2 | ⟨g, cap, cur, rfl, hg, hh, r⟩
  · exact .inl h2
  · exact .inr ⟨g, cap, cur, rfl, hg, (hb.block g (hn g rfl)).trans hh, r⟩
theorem OwnT.stay {t : TypeId} {w w' : World} {B : Nat} {v : Value} {bs : List UInt8} (h : OwnT t w B v bs) (hb : Below w.heap.size w w') : OwnT t w' B v bs :=
  h.keep hb (fun k hk => (World.ownsRow.lt h k hk).2)
theorem OwnT.set {t : TypeId} {w : World} {B : Nat} {v : Value} {bs : List UInt8} (h : OwnT t w B v bs) {a : Addr} (ha : a.block < B) (u : Value) : OwnT t (w.setCell a u) B v bs :=
  ownsRow_setCell_below h ha u
theorem OwnT.lower {t : TypeId} {w : World} {B B' : Nat} {v : Value} {bs : List UInt8} (h : OwnT t w B v bs) (hb : B' ≤ B) : OwnT t w B' v bs := by
  obtain ⟨h1, h2⟩ := h
  refine ⟨h1, ?_⟩
  rcases h2 with h2 | ⟨g, cap, cur, rfl, hg, r⟩
  · exact .inl h2
  · exact .inr ⟨g, cap, cur, rfl, by omega, r⟩
theorem OwnT.lt {t : TypeId} {w : World} {B : Nat} {v : Value} {bs : List UInt8} (h : OwnT t w B v bs) : ∀ k, v.ownBlock = some k → k < w.heap.size := fun k hk => (World.ownsRow.lt h k hk).2
theorem OwnT.ge {t : TypeId} {w : World} {B : Nat} {v : Value} {bs : List UInt8} (h : OwnT t w B v bs) : ∀ k, v.ownBlock = some k → B ≤ k := fun k hk => (World.ownsRow.lt h k hk).1
theorem OwnT.other {t : TypeId} {w w' : World} {B : Nat} {v : Value} {bs : List UInt8} {row : Option Nat} (h : OwnT t w B v bs) (hg : w.grownBy w' row) (hne : ∀ k, v.ownBlock = some k → row ≠ some k) : OwnT t w' B v bs := by
  obtain ⟨h1, h2⟩ := h
  refine ⟨h1, ?_⟩
  rcases h2 with h2 | ⟨g, cap, cur, rfl, hb, hh, r⟩
  · exact .inl h2
  · exact .inr ⟨g, cap, cur, rfl, hb, (hg.block g (Array.getElem?_eq_some_iff.1 hh).1 (fun e => hne g rfl e.symm)).trans hh, r⟩
theorem OwnT.none (t : TypeId) (w : World) (B : Nat) : OwnT t w B (.slice none 0 0) [] := ⟨by simp, .inl ⟨rfl, rfl⟩⟩

set_option maxRecDepth 4000 in
set_option maxHeartbeats 1000000 in
theorem markByteS_t (t : TypeId) (B : Nat) (v : Value) (bs : List UInt8) (m : Nat) (w : World) (ho : OwnT t w B v bs) (hm : m + bs.length ≤ 1000000000000) :
    Calls Tryd.prog 27 #[v, .int .i64 m] w fun e w' => e = .returned (.int .i64 ((m : Int) + (bs.length : Int))) ∧ OwnT t w' B v (marks m bs.length) ∧ w.grownBy w' v.ownBlock := by
  obtain ⟨h1, h2⟩ := id ho
  rcases h2 with ⟨rfl, hn⟩ | ⟨g, cap, cur, rfl, hb, hg, hle, hcm, hs, ht⟩
  · have e : bs = [] := List.length_eq_zero_iff.1 hn
    subst e
    go_enter Tryd.func27, Tryd.ntmps27
    go_wp2
    refine wp_loop_rounds 1 ?_
    rw [rounds_succ]
    go_wp2
    go_ret
    exact ⟨by simp, ho, World.grownBy.refl _ _⟩
  · clear h1 hb hg hs ht cur
    go_enter Tryd.func27, Tryd.ntmps27
    go_wp2
    go_loopw [1, 5] (fun q i wr => ∃ j : Nat, j ≤ bs.length ∧ i = .int .i64 j ∧ q = .int .i64 ((m : Int) + j) ∧ OwnT t wr B (.slice (some ⟨g, 0, none⟩) bs.length cap) (marked bs m j) ∧ w.grownBy wr (some g))
      (fun _ i _ => bs.length - (intOf i).toNat)
    case atStart => exact ⟨0, Nat.zero_le _, rfl, by simp, by rw [marked_zero]; exact ho, World.grownBy.refl _ _⟩
    case round =>
      obtain ⟨j, hj, rfl, rfl, hown, hgr⟩ := hrel
      have hml := marked_len bs m j hj
      by_cases hlt : j < bs.length
      · unfold OwnT at hown
        rw [hml] at hown
        have hcy : wr.cell? ⟨g, j, none⟩ = some (.int .u8 (at8 (marked bs m j) j)) := by rw [World.ownsRow.cellAt hown j (by omega), u8v_at (by omega)]
        have hfy : wr.frozen? ⟨g, j, none⟩ = false := World.ownsRow.frozenAt hown j
        have R := World.ownsRow.stored hown j (.int .u8 (((m : Int) + j) % 256))
        rw [marked_set bs m j hlt] at R
        have hml2 := marked_len bs m (j + 1) hlt
        clear hown hml ho
        go_wp2
        go_roundw
        case rel => exact ⟨j + 1, by omega, by go_num, by go_num, by unfold OwnT; rw [hml2]; exact R.1, grownBy_trans hgr R.2⟩
        case measure => simp [intOf]; omega
      · have e : j = bs.length := by omega
        subst e
        rw [marked_all] at hown
        go_wp2
        go_ret
        exact ⟨rfl, hown, hgr⟩
set_option maxRecDepth 4000 in
set_option maxHeartbeats 1000000 in
theorem markBytes1_t (t : TypeId) (c : Int) (B : Nat) (v : Value) (bs : List UInt8) (w : World) (ho : OwnT t w B v bs) (hm : bs.length ≤ 1048576) :
    Calls Tryd.prog 28 #[.agg #[.int .i64 c, v], .int .i64 1] w fun e w' => e = .returned (.int .i64 (1 + (bs.length : Int))) ∧ OwnT t w' B v (marks 1 bs.length) ∧ w.grownBy w' v.ownBlock := by
  go_enter Tryd.func28, Tryd.ntmps28
  go_wp2_with fail
  refine (markByteS_t t B v bs 1 _ (ho.stay ((Below.refl _ _).alloc (Nat.le_refl _) _)) (by omega)).mono ?_
  rintro e w1 ⟨rfl, ho1, hg1⟩
  go_wp2
  go_ret
  exact ⟨rfl, ho1, grownBy_trans (World.grownBy_alloc _ _ _) hg1⟩
theorem heldBytes1_t (t : TypeId) (c : Int) (B : Nat) (a : Option Addr) (cap n : Nat) (w : World) (ho : OwnT t w B (.slice a n cap) (marks 1 n)) (hm : n ≤ 1048576) :
    Calls Tryd.prog 29 #[.agg #[.int .i64 c, .slice a n cap], .int .i64 1] w fun e w' => e = .returned (.int .i64 (1 + (n : Int))) ∧ Below w.heap.size w w' :=
  heldBytes_c c a cap n 1 w ho.rds (by omega)
theorem eqBytes2_t (t : TypeId) (c : Int) (B1 B2 : Nat) (a b : Option Addr) (ca cb : Nat) (bs : List UInt8) (w : World) (h1 : OwnT t w B1 (.slice a bs.length ca) bs) (h2 : Own w B2 (.slice b bs.length cb) bs) :
    Calls Tryd.prog 25 #[.agg #[.int .i64 c, .slice a bs.length ca], .agg #[.int .i64 c, .slice b bs.length cb]] w fun e w' => e = .returned (.bool true) ∧ Below w.heap.size w w' :=
  eqBytes_c c a b ca cb bs w h1.rds (Rd.own h2)
end Go.Proofs.YtpcgpefefklfoaaDoor

