import Derived.Test.YtiabacnmmojfjabGreatDoorJoint27
import Derived.Test.YtiabacnmmojfjabGreatDoorShkA
import Derived.Test.YtiabacnmmojfjabGreatDoorJoint6
import Derived.Test.YtiabacnmmojfjabGreatDoorJoint1
namespace Go.Proofs.YtiabacnmmojfjabGreatDoor
open Go.ChangeShapes Go.WideShapes Go.ChangeAt Go.RowKit
def keptD (t : ShkD) (m : MsgD) : ShkD := { t with e := eL t.e (t.e.2.2.2.1 ++ [m]) }
def saidD (t : ShkD) (m : MsgD) : ShkD := { t with e := eL t.e (t.e.2.2.2.1 ++ [m]), send := t.send ++ [m] }
section
variable {w0 w : World} {b : Nat} {t : ShkD}
theorem Shk.side (h : Shk w0 b w t) : ∃ p1 q1 p2 q2, w.cell? ⟨b, 0, none⟩ = some (.int .i64 t.e.1.1) ∧ w.cell? ⟨b, 1, none⟩ = some (.slice p1 t.e.1.2.1.length q1) ∧ w.cell? ⟨b, 2, none⟩ = some (.int .i64 t.e.1.2.2.1) ∧ w.cell? ⟨b, 3, none⟩ = some (.slice p2 t.e.1.2.2.2.length q2) ∧ Rd w p1 q1 t.e.1.2.1 ∧ Rd w p2 q2 t.e.1.2.2.2 := by
 obtain ⟨us, vh, vs, ho, vk, xs, f, HB, RE, RH, RO, RK⟩ := h
 obtain ⟨p1, q1, p2, q2, p3, q3, p4, q4, p5, q5, p6, q6, p7, q7, p8, q8, rfl, r1, r2, r3, r4, r5, r6, r7, r8⟩ := end_rep RE
 obtain ⟨ph, qh, eh, rh⟩ := RH
 obtain ⟨po, qo, rfl, ro⟩ := hello_rep RO
 obtain ⟨pk, qk, ek, rk⟩ := RK
 obtain ⟨pn, qn, en, -⟩ := HB.own.rd
 simp only [List.cons.injEq, and_true] at eh ek
 subst eh ek en
 simp only [List.cons_append, List.nil_append] at HB
 have A := HB.arr
 exact ⟨p1, q1, p2, q2, A.cell 0, A.cell 1, A.cell 2, A.cell 3, r1.sees (blank_le _ _), r2.sees (blank_le _ _)⟩
theorem Shk.stage (h : Shk w0 b w t) : w.cell? ⟨b, 4, none⟩ = some (.int .i64 t.e.2.1) ∧ w.cell? ⟨b, 5, none⟩ = some (.int .i64 t.e.2.2.1) ∧ (∀ o, w.frozen? ⟨b, o, none⟩ = false) := by
 obtain ⟨us, vh, vs, ho, vk, xs, f, HB, RE, RH, RO, RK⟩ := h
 obtain ⟨p1, q1, p2, q2, p3, q3, p4, q4, p5, q5, p6, q6, p7, q7, p8, q8, rfl, r1, r2, r3, r4, r5, r6, r7, r8⟩ := end_rep RE
 obtain ⟨ph, qh, eh, rh⟩ := RH
 obtain ⟨po, qo, rfl, ro⟩ := hello_rep RO
 obtain ⟨pk, qk, ek, rk⟩ := RK
 obtain ⟨pn, qn, en, -⟩ := HB.own.rd
 simp only [List.cons.injEq, and_true] at eh ek
 subst eh ek en
 simp only [List.cons_append, List.nil_append] at HB
 have A := HB.arr
 exact ⟨A.cell 4, A.cell 5, A.frozen⟩
theorem Shk.setStage (h : Shk w0 b w t) (k : Int) : Shk w0 b (w.setCell ⟨b, 4, none⟩ (.int .i64 k)) { t with e := eSt t.e k } := by
 obtain ⟨us, vh, vs, ho, vk, xs, f, HB, RE, RH, RO, RK⟩ := h
 obtain ⟨p1, q1, p2, q2, p3, q3, p4, q4, p5, q5, p6, q6, p7, q7, p8, q8, rfl, r1, r2, r3, r4, r5, r6, r7, r8⟩ := end_rep RE
 obtain ⟨ph, qh, eh, rh⟩ := RH
 obtain ⟨po, qo, rfl, ro⟩ := hello_rep RO
 obtain ⟨pk, qk, ek, rk⟩ := RK
 obtain ⟨pn, qn, en, -⟩ := HB.own.rd
 simp only [List.cons.injEq, and_true] at eh ek
 subst eh ek en
 simp only [List.cons_append, List.nil_append] at HB
 have A := HB.arr
 have HS := sees_set b 4 (.int .i64 k) w (.slice pn t.send.length qn)
 exact ⟨_, _, _, _, _, xs, f, HB.set 4 (.int .i64 k), end_mk (a := eSt t.e k) (r1.sees HS) (r2.sees HS) (r3.sees msgC_mono HS) (r4.sees HS) (r5.sees HS) (r6.sees HS) (r7.sees HS) (r8.sees HS), ⟨ph, qh, rfl, rh.sees msgC_mono HS⟩, hello_mk (ro.sees HS), ⟨pk, qk, rfl, rk.sees HS⟩⟩
theorem Shk.setMode (h : Shk w0 b w t) (k : Int) : Shk w0 b (w.setCell ⟨b, 5, none⟩ (.int .i64 k)) { t with e := eMo t.e k } := by
 obtain ⟨us, vh, vs, ho, vk, xs, f, HB, RE, RH, RO, RK⟩ := h
 obtain ⟨p1, q1, p2, q2, p3, q3, p4, q4, p5, q5, p6, q6, p7, q7, p8, q8, rfl, r1, r2, r3, r4, r5, r6, r7, r8⟩ := end_rep RE
 obtain ⟨ph, qh, eh, rh⟩ := RH
 obtain ⟨po, qo, rfl, ro⟩ := hello_rep RO
 obtain ⟨pk, qk, ek, rk⟩ := RK
 obtain ⟨pn, qn, en, -⟩ := HB.own.rd
 simp only [List.cons.injEq, and_true] at eh ek
 subst eh ek en
 simp only [List.cons_append, List.nil_append] at HB
 have A := HB.arr
 have HS := sees_set b 5 (.int .i64 k) w (.slice pn t.send.length qn)
 exact ⟨_, _, _, _, _, xs, f, HB.set 5 (.int .i64 k), end_mk (a := eMo t.e k) (r1.sees HS) (r2.sees HS) (r3.sees msgC_mono HS) (r4.sees HS) (r5.sees HS) (r6.sees HS) (r7.sees HS) (r8.sees HS), ⟨ph, qh, rfl, rh.sees msgC_mono HS⟩, hello_mk (ro.sees HS), ⟨pk, qk, rfl, rk.sees HS⟩⟩
end
theorem msgR_f1 (c k : Int) (a : Option Addr) (n m : Nat) (w : World) : (Instr.field 112 (.agg #[.int .i64 c, .int .i64 k, .slice a n m]) 1).run Tryz.prog w = .ok (.agg #[.int .i64 k, .slice a n m]) w := by kernel_rfl
theorem rd_nil (w : World) : Rd w none 0 [] := ⟨Nat.le_refl _, by unfold maxLen; omega, fun _ => rfl, fun hp => absurd hp (by simp)⟩
theorem shk_new (w0 w : World) (b : Nat) (heard : List MsgD) (e : EndD) (us : List Value) (vh : Value) (A : Arr w b 90 (us ++ [vh, .slice none 0 0, .slice none 0 0, .int .i64 0, .int .i64 0, .slice none 0 0])) (ho : Only [b] w0 w) (hb : b < w0.heap.size) (hu : endC.rep (blank [b] w) e us) (hh : msgsC.rep (blank [b] w) heard [vh]) :
  Shk w0 b w ⟨e, heard, [], ([], 0, 0), []⟩ :=
 ⟨us, vh, .slice none 0 0, [.slice none 0 0, .int .i64 0, .int .i64 0], .slice none 0 0, [], [], ⟨A, ho, hb, nil_ownM _ _⟩, hu, hh, hello_mk (a := ([], 0, 0)) (rd_nil _), ⟨none, 0, rfl, rd_nil _⟩⟩
end Go.Proofs.YtiabacnmmojfjabGreatDoor
