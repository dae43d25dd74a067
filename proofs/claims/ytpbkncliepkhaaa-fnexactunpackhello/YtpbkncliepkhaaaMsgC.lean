/- The contracts of the laws' helpers on messages, on lists of these, and on answers that hold such a list: toMsg, szMsg, eqMsg, markMsg; toMsgS, szMsgS, eqMsgS, markMsgS, heldMsgS; eqMsgsResult, markMsgsResult, heldMsgsResult. -/
import Derived.Test.YtpbkncliepkhaaaJoint8
import Derived.Test.YtpbkncliepkhaaaJoint9
import Derived.Test.YtpbkncliepkhaaaJoint3
namespace Go.Proofs.Ytpbkncliepkhaaa
open Go.ChangeShapes Go.WideShapes Go.ChangeAt Go.RowKit

abbrev MsgD := Int × List UInt8
def msgC : Cod MsgD := prodC (intC .i64) bytC
theorem msg_rep {w : World} {a : MsgD} {vs : List Value} (h : msgC.rep w a vs) : ∃ p q, vs = [.int .i64 a.1, .slice p a.2.length q] ∧ Rd w p q a.2 := by
  obtain ⟨us, ts, rfl, h1, p, q, rfl, r⟩ := h
  exact ⟨p, q, by rw [h1]; rfl, r⟩
theorem msg_mk {w : World} {a : MsgD} {p : Option Addr} {q : Nat} (r : Rd w p q a.2) : msgC.rep w a [.int .i64 a.1, .slice p a.2.length q] := ⟨[_], [_], rfl, rfl, p, q, rfl, r⟩
theorem msg_own {w : World} {B : Nat} {a : MsgD} {vs : List Value} {fp : List Nat} (h : msgC.own w B a vs fp) : ∃ v, vs = [.int .i64 a.1, v] ∧ Own w B v a.2 ∧ fp = v.ownBlock.toList := by
  obtain ⟨us, ts, f, g, rfl, rfl, _, ⟨rfl, rfl⟩, v, rfl, o, rfl⟩ := h
  exact ⟨v, rfl, o, rfl⟩
theorem msg_own_mk {w : World} {B : Nat} {a : MsgD} {v : Value} (o : Own w B v a.2) : msgC.own w B a [.int .i64 a.1, v] v.ownBlock.toList :=
  ⟨[_], [_], [], _, rfl, rfl, nodup_opt _, ⟨rfl, rfl⟩, v, rfl, o, rfl⟩

set_option maxRecDepth 4000 in
set_option maxHeartbeats 400000 in
theorem toMsg_c (a : MsgD) (p : Option Addr) (q : Nat) (w : World) (hr : Rd w p q a.2) (hl : a.2.length ≤ 1048576) :
    Calls Try.prog 27 #[.agg #[.int .i64 a.1, .slice p a.2.length q]] w fun e w' => ∃ v, e = .returned (.agg #[.int .i64 a.1, v]) ∧ Own w' w.heap.size v a.2 ∧ Below w.heap.size w w' := by
  have B3 : Below w.heap.size w (((w.alloc (Obj.cells #[Value.int IntKind.i64 a.1, Value.slice p a.2.length q] 52)).alloc (Obj.cells #[Value.int IntKind.i64 0, Value.slice none 0 0] 25)).alloc (Obj.cells #[Value.int IntKind.i64 a.1, Value.slice none 0 0] 25)) := Below.mk (Below.mk (alloc_below _ _) _) _
  have R2 : Arr (((w.alloc (Obj.cells #[Value.int IntKind.i64 a.1, Value.slice p a.2.length q] 52)).alloc (Obj.cells #[Value.int IntKind.i64 0, Value.slice none 0 0] 25)).alloc (Obj.cells #[Value.int IntKind.i64 a.1, Value.slice none 0 0] 25)) (w.heap.size + 1) 25 [.int .i64 0, .slice none 0 0] := by
    have h := Arr.new (w.alloc (Obj.cells #[Value.int IntKind.i64 a.1, Value.slice p a.2.length q] 52)) [.int .i64 0, .slice none 0 0] 25
    rw [size_alloc] at h
    exact h.old _ _
  have R3 : Arr (((w.alloc (Obj.cells #[Value.int IntKind.i64 a.1, Value.slice p a.2.length q] 52)).alloc (Obj.cells #[Value.int IntKind.i64 0, Value.slice none 0 0] 25)).alloc (Obj.cells #[Value.int IntKind.i64 a.1, Value.slice none 0 0] 25)) (w.heap.size + 1 + 1) 25 [.int .i64 a.1, .slice none 0 0] := by
    have h := Arr.new ((w.alloc (Obj.cells #[Value.int IntKind.i64 a.1, Value.slice p a.2.length q] 52)).alloc (Obj.cells #[Value.int IntKind.i64 0, Value.slice none 0 0] 25)) [.int .i64 a.1, .slice none 0 0] 25
    rw [size_alloc, size_alloc] at h
    exact h
  have HZ : Hid ((((w.alloc (Obj.cells #[Value.int IntKind.i64 a.1, Value.slice p a.2.length q] 52)).alloc (Obj.cells #[Value.int IntKind.i64 0, Value.slice none 0 0] 25)).alloc (Obj.cells #[Value.int IntKind.i64 a.1, Value.slice none 0 0] 25)).heap.size = w.heap.size + 3) := by show _ = _; rw [size_alloc, size_alloc, size_alloc]
  go_enter Try.func27, Try.ntmps27
  go_wp2_with fail
  refine (toByteS_c p q a.2 _ (hr.keep B3) hl).mono ?_
  rintro e w1 ⟨v, rfl, ho, hb⟩
  rw [HZ.out] at ho
  have r2 := R2.stay hb
  have r3 := R3.stay hb
  have BW := Below.step B3 hb
  have c0 := r2.cell 0
  have c1 := r2.cell 1
  have f2 := r2.frozen
  have d0 := r3.cell 0
  have d1 := r3.cell 1
  have f3 := r3.frozen
  simp at c0 c1 d0 d1
  obtain ⟨pv, qv, rfl, -⟩ := ho.rd
  clear R2 R3 B3 hb r2 r3 HZ
  go_wp2
  refine bodyPost_ret (v := .agg #[.int .i64 a.1, .slice pv a.2.length qv]) (by simp [results, Try.results27, go_sem, c0, c1]) rfl ⟨_, rfl, ?_, ((BW.setCell (by show w.heap.size ≤ w.heap.size + 1 + 1; omega) _).setCell (by show w.heap.size ≤ w.heap.size + 1; omega) _).setCell (by show w.heap.size ≤ w.heap.size + 1; omega) _⟩
  exact (((ho.set (by show w.heap.size + 1 + 1 < w.heap.size + 3; omega) _).set (by show w.heap.size + 1 < w.heap.size + 3; omega) _).set (by show w.heap.size + 1 < w.heap.size + 3; omega) _).lower (by omega)

theorem infoMsg : (Try.prog.info? 25).map (fun i => (i.zero, i.size, i.bytes)) = some (some (.agg #[.int .i64 0, .slice none 0 0]), 2, 32) := by kernel_rfl
def bulkM (l : List MsgD) : Nat := (l.map (fun a => a.2.length)).sum + l.length
theorem bulkM_at {l : List MsgD} {i : Nat} {a : MsgD} (h : l[i]? = some a) : a.2.length ≤ bulkM l := by
  have hm := List.mem_of_getElem? h
  have h2 : ∀ l : List MsgD, a ∈ l → a.2.length ≤ (l.map (fun a : MsgD => a.2.length)).sum := fun l => by
    induction l with
    | nil => intro h; cases h
    | cons b l ih =>
      intro h
      rw [List.map_cons, List.sum_cons]
      rcases List.mem_cons.1 h with rfl | h
      · omega
      · have := ih h; omega
  have := h2 l hm
  unfold bulkM; omega

set_option maxRecDepth 4000 in
set_option maxHeartbeats 400000 in
theorem szMsg_c (z : Int) (p : Option Addr) (q n : Nat) (left : Int) (w : World) (hn : n ≤ q) (hq : q ≤ 2 ^ 63 - 1) (h0 : 0 ≤ left) (h1 : left ≤ 1048576) :
    Calls Try.prog 26 #[.agg #[.int .i64 z, .slice p n q], .int .i64 left] w fun e w' => e = .returned (.int .i64 (szR n left)) ∧ Below w.heap.size w w' := by
  have K : Hid (∀ w, Calls Try.prog 52 #[.slice p n q, .int .i64 left] w fun e w' => e = .returned (.int .i64 (szR n left)) ∧ w' = w) := fun w => szByteS_c p q n left w hn hq h0 h1
  by_cases h : szR n left < 0
  · have he : szR n left = -1 := by rw [szR, if_neg (szR_neg h)]
    rw [he] at K ⊢
    go_enter Try.func26, Try.ntmps26
    go_wp2_with fail
    refine (K.out _).mono ?_
    rintro e w' ⟨rfl, rfl⟩
    go_wp2
    go_ret
    exact ⟨rfl, alloc_below _ _⟩
  · generalize szR n left = r at *
    go_enter Try.func26, Try.ntmps26
    go_wp2_with fail
    refine (K.out _).mono ?_
    rintro e w' ⟨rfl, rfl⟩
    go_wp2
    go_ret
    exact ⟨rfl, alloc_below _ _⟩

set_option maxRecDepth 4000 in
set_option maxHeartbeats 400000 in
theorem eqMsg_c (a : MsgD) (p p2 : Option Addr) (q q2 : Nat) (w : World) (h1 : Rd w p q a.2) (h2 : Rd w p2 q2 a.2) :
    Calls Try.prog 29 #[.agg #[.int .i64 a.1, .slice p a.2.length q], .agg #[.int .i64 a.1, .slice p2 a.2.length q2]] w fun e w' => e = .returned (.bool true) ∧ Below w.heap.size w w' := by
  have B2 := fun o1 o2 => Below.mk (alloc_below w o1) o2
  go_enter Try.func29, Try.ntmps29
  go_wp2_with fail
  refine (eqByteS_c _ _ _ _ a.2 _ (h1.keep (B2 _ _)) (h2.keep (B2 _ _))).mono ?_
  rintro e w1 ⟨rfl, hb1⟩
  go_wp2
  go_ret
  exact ⟨rfl, Below.step (B2 _ _) hb1⟩

def mkM : List MsgD → Nat → List MsgD
  | [], _ => []
  | a :: l, m => ((m : Int), marks (m + 1) a.2.length) :: mkM l (m + 1 + a.2.length)
theorem bulkM_cons (a : MsgD) (l : List MsgD) : bulkM (a :: l) = a.2.length + 1 + bulkM l := by simp [bulkM]; omega
theorem bulkM_append (l r : List MsgD) : bulkM (l ++ r) = bulkM l + bulkM r := by simp [bulkM]; omega
theorem mkM_append : ∀ (l r : List MsgD) (m : Nat), mkM (l ++ r) m = mkM l m ++ mkM r (m + bulkM l)
  | [], r, m => by simp [mkM, bulkM]
  | a :: l, r, m => by
    rw [List.cons_append, mkM, mkM, mkM_append l r, bulkM_cons, List.cons_append, show m + 1 + a.2.length + bulkM l = m + (a.2.length + 1 + bulkM l) by omega]
theorem mkM_len : ∀ (l : List MsgD) (m : Nat), (mkM l m).length = l.length
  | [], _ => rfl
  | a :: l, m => by rw [mkM, List.length_cons, mkM_len l, List.length_cons]
theorem mkM_take {l : List MsgD} {k : Nat} {a : MsgD} (h : l[k]? = some a) (m : Nat) : mkM (l.take (k + 1)) m = mkM (l.take k) m ++ [(((m + bulkM (l.take k) : Nat) : Int), marks (m + bulkM (l.take k) + 1) a.2.length)] := by
  rw [List.take_add_one, h, mkM_append]; rfl
theorem bulkM_take {l : List MsgD} {k : Nat} {a : MsgD} (h : l[k]? = some a) : bulkM (l.take (k + 1)) = bulkM (l.take k) + a.2.length + 1 := by
  rw [List.take_add_one, h, bulkM_append]; simp [bulkM]; omega
theorem bulkM_le (l : List MsgD) (k : Nat) : bulkM (l.take k) ≤ bulkM l := by
  conv => rhs; rw [← List.take_append_drop k l, bulkM_append]
  omega
set_option maxRecDepth 4000 in
set_option maxHeartbeats 400000 in
theorem markMsg_c (z : Int) (B : Nat) (v : Value) (bs : List UInt8) (w : World) (m : Nat) (ho : Own w B v bs) (hm : m + bs.length ≤ 1000000000000) :
    Calls Try.prog 30 #[.agg #[.int .i64 z, v], .int .i64 m] w fun e w' => e = .returned (.int .i64 ((m : Int) + (bs.length : Int))) ∧ Own w' B v (marks m bs.length) ∧ w.grownBy w' v.ownBlock := by
  go_enter Try.func30, Try.ntmps30
  go_wp2_with fail
  refine (markByteS_c B v bs m _ (ho.stay ((Below.refl _ _).alloc (Nat.le_refl _) _)) hm).mono ?_
  rintro e w1 ⟨rfl, ho1, hg1⟩
  go_wp2
  go_ret
  exact ⟨rfl, ho1, grownBy_trans (World.grownBy_alloc _ _ _) hg1⟩


theorem mkM_at {l : List MsgD} {k : Nat} {a : MsgD} (h : l[k]? = some a) (m : Nat) : (mkM l m)[k]? = some (((m + bulkM (l.take k) : Nat) : Int), marks (m + bulkM (l.take k) + 1) a.2.length) := by
  have hk := (List.getElem?_eq_some_iff.1 h).1
  conv => lhs; rw [← List.take_append_drop k l, drop_at h, mkM_append]
  rw [List.getElem?_append_right (by rw [mkM_len, List.length_take]; omega), mkM_len, List.length_take, Nat.min_eq_left (by omega), Nat.sub_self]
  rfl


end Go.Proofs.Ytpbkncliepkhaaa

