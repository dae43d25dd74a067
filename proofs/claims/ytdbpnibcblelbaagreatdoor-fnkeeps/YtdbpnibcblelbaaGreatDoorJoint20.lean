/- How the answers of chapter 11 own their memory, piece by piece; lists of messages in a block of their own. No program in it. -/
import Derived.Test.YtdbpnibcblelbaaGreatDoorJoint19
import Derived.Test.YtdbpnibcblelbaaGreatDoorJoint14
import Derived.Test.YtdbpnibcblelbaaGreatDoorJoint12
import Derived.Test.YtdbpnibcblelbaaGreatDoorJoint6
import Derived.Test.YtdbpnibcblelbaaGreatDoorJoint8
import Derived.Test.YtdbpnibcblelbaaGreatDoorJoint15
import Derived.Test.YtdbpnibcblelbaaGreatDoorJoint4
import Derived.Test.YtdbpnibcblelbaaGreatDoorJoint10
import Derived.Test.YtdbpnibcblelbaaGreatDoorJoint11
namespace Go.Proofs.YtdbpnibcblelbaaGreatDoor
open Go.ChangeShapes Go.WideShapes Go.ChangeAt Go.RowKit
theorem own_apartK {α β : Type} {c : Cod α} {d : Cod β} {w : World} {B : Nat} {a : α × β} {us ts : List Value} {f g : List Nat} (h1 : c.own w B a.1 us f) (h2 : d.own w B a.2 ts g) (hd : ∀ k, k ∈ f → k ∉ g) : (prodC c d).own w B a (us ++ ts) (f ++ g) :=
  ⟨us, ts, f, g, rfl, rfl, List.nodup_append.2 ⟨c.nd h1, d.nd h2, fun _ ha _ hb e => hd _ ha (e ▸ hb)⟩, h1, h2⟩
theorem byt_nil (w : World) (B : Nat) : bytC.own w B [] [.slice none 0 0] [] := ⟨_, rfl, Own_nil _ _, rfl⟩
theorem zeroX_own (w : World) (B : Nat) : secretsC.own w B zeroX [.slice none 0 0, .slice none 0 0, .slice none 0 0, .slice none 0 0] [] :=
  own_apartK (a := zeroX) (us := [.slice none 0 0]) (f := []) (byt_nil w B) (own_apartK (a := zeroX.2) (us := [.slice none 0 0]) (f := []) (byt_nil w B) (own_apartK (a := zeroX.2.2) (us := [.slice none 0 0]) (f := []) (byt_nil w B) (byt_nil w B) (fun _ h => by cases h)) (fun _ h => by cases h)) (fun _ h => by cases h)
theorem end_of {w : World} {B : Nat} {e : EndD} {us xs : List Value} {um ub : Value} {fs fm fb fx : List Nat} (ks : sideC.own w B e.1 us fs) (km : msgsC.own w B e.2.2.2.1 [um] fm) (kb : bytC.own w B e.2.2.2.2.1 [ub] fb) (kx : secretsC.own w B e.2.2.2.2.2 xs fx)
    (a1 : ∀ k, k ∈ fs → k ∉ fm) (a2 : ∀ k, k ∈ fs → k ∉ fb) (a3 : ∀ k, k ∈ fs → k ∉ fx) (a4 : ∀ k, k ∈ fm → k ∉ fb) (a5 : ∀ k, k ∈ fm → k ∉ fx) (a6 : ∀ k, k ∈ fb → k ∉ fx) :
    endC.own w B e (us ++ ([.int .i64 e.2.1] ++ ([.int .i64 e.2.2.1] ++ ([um] ++ ([ub] ++ xs))))) (fs ++ ([] ++ ([] ++ (fm ++ (fb ++ fx))))) :=
  own_apartK (a := e) ks (own_apartK (a := e.2) (us := [.int .i64 e.2.1]) own_int (own_apartK (a := e.2.2) (us := [.int .i64 e.2.2.1]) own_int (own_apartK (a := e.2.2.2) km (own_apartK (a := e.2.2.2.2) kb kx a6) (fun k h h2 => by
    rcases List.mem_append.1 h2 with h3 | h3
    · exact a4 k h h3
    · exact a5 k h h3)) (fun _ h => by cases h)) (fun _ h => by cases h)) (fun k h h2 => by
    simp only [List.nil_append, List.mem_append] at h2
    rcases h2 with h3 | h3 | h3
    · exact a1 k h h3
    · exact a2 k h h3
    · exact a3 k h h3)
theorem endR_of {w : World} {B : Nat} {r : EndResultD} {us : List Value} {ud : Value} {fe fd : List Nat} (ke : endC.own w B r.2.1 us fe) (kd : msgsC.own w B r.2.2 [ud] fd) (hd : ∀ k, k ∈ fe → k ∉ fd) :
    endResultC.own w B r ([.int .i64 r.1] ++ (us ++ [ud])) ([] ++ (fe ++ fd)) :=
  own_apartK (a := r) (us := [.int .i64 r.1]) own_int (own_apartK (a := r.2) ke kd hd) (fun _ h => by cases h)
theorem zeroE_own (w : World) (B : Nat) : endC.own w B zeroE [.int .i64 0, .slice none 0 0, .int .i64 0, .slice none 0 0, .int .i64 0, .int .i64 0, .slice none 0 0, .slice none 0 0, .slice none 0 0, .slice none 0 0, .slice none 0 0, .slice none 0 0] [] :=
  end_of (e := zeroE) (us := [.int .i64 0, .slice none 0 0, .int .i64 0, .slice none 0 0]) (fs := []) (fm := []) (fb := []) (fx := []) (own_apartK (a := zeroS) (us := [.int .i64 0]) (f := []) own_int (own_apartK (a := zeroS.2) (us := [.slice none 0 0]) (f := []) (byt_nil w B) (own_apartK (a := zeroS.2.2) (us := [.int .i64 0]) (f := []) own_int (byt_nil w B) (fun _ h => by cases h)) (fun _ h => by cases h)) (fun _ h => by cases h)) ⟨_, _, _, rfl, nil_ownM w B, rfl⟩ (byt_nil w B) (zeroX_own w B) (fun _ h => by cases h) (fun _ h => by cases h) (fun _ h => by cases h) (fun _ h => by cases h) (fun _ h => by cases h) (fun _ h => by cases h)
theorem badE_own (w : World) (B : Nat) (c : Int) : endResultC.own w B (badE c) [.int .i64 c, .int .i64 0, .slice none 0 0, .int .i64 0, .slice none 0 0, .int .i64 0, .int .i64 0, .slice none 0 0, .slice none 0 0, .slice none 0 0, .slice none 0 0, .slice none 0 0, .slice none 0 0, .slice none 0 0] [] :=
  endR_of (r := badE c) (fe := []) (fd := []) (zeroE_own w B) ⟨_, _, _, rfl, nil_ownM w B, rfl⟩ (fun _ h => by cases h)
theorem rdL_oneM {w : World} {g q : Nat} {k : Int} {p : Option Addr} {bs : List UInt8} (A : Arr w g 82 [.int .i64 k, .slice p bs.length q]) (r : Rd w p q bs) : RdL msgC w (some ⟨g, 0, none⟩) 1 [(k, bs)] := by
  refine ⟨Nat.le_refl _, by unfold maxLen; omega, (fun e => by cases e), fun _ => ⟨g, 0, rfl, fun i a hi => ?_⟩⟩
  have h0 : i = 0 := by
    have := (List.getElem?_eq_some_iff.1 hi).1
    simp at this
    exact this
  subst h0
  cases hi
  refine ⟨_, msg_mk (a := (k, bs)) r, fun j u hj => ?_⟩
  rw [Nat.zero_mul, Nat.zero_add]
  exact (A.cell j).trans hj
end Go.Proofs.YtdbpnibcblelbaaGreatDoor
/- How pairs of ends own their memory; the parts of an end's answer. No program in it. -/
namespace Go.Proofs.YtdbpnibcblelbaaGreatDoor
open Go.ChangeShapes Go.WideShapes Go.ChangeAt Go.RowKit
theorem endR_parts {w : World} {B : Nat} {r : EndResultD} {us : List Value} {v : Value} {fp : List Nat} (h : endResultC.own w B r ([.int .i64 r.1] ++ (us ++ [v])) fp) (hu : us.length = 12) :
    ∃ fe fd, endC.own w B r.2.1 us fe ∧ msgsC.own w B r.2.2 [v] fd ∧ ∀ k, k ∈ fe → k ∈ fp := by
  obtain ⟨us0, ts0, f, g, e1, hf, -, ⟨h1, hf0⟩, us1, ts1, f1, g1, e2, hg, -, hE, hM⟩ := h
  subst h1
  have e3 : us ++ [v] = ts0 := by simpa using e1
  have hl := endC.len (endC.toRep hE)
  have e4 : us ++ [v] = us1 ++ ts1 := e3.trans e2
  obtain ⟨rfl, rfl⟩ := List.append_inj e4 (by rw [hu]; exact hl.symm)
  exact ⟨f1, g1, hE, hM, fun k hk => by rw [hf, hg]; exact List.mem_append_right _ (List.mem_append_left _ hk)⟩
theorem pairR_of {w : World} {B : Nat} {r : PairResultD} {us vs : List Value} {fe fd : List Nat} (ke : endC.own w B r.2.1 us fe) (kd : endC.own w B r.2.2 vs fd) (hd : ∀ k, k ∈ fe → k ∉ fd) :
    pairResultC.own w B r ([.int .i64 r.1] ++ (us ++ vs)) ([] ++ (fe ++ fd)) :=
  own_apartK (a := r) (us := [.int .i64 r.1]) own_int (own_apartK (a := r.2) ke kd hd) (fun _ h => by cases h)
theorem badP_own (w : World) (B : Nat) (c : Int) : pairResultC.own w B (badP c) [.int .i64 c, .int .i64 0, .slice none 0 0, .int .i64 0, .slice none 0 0, .int .i64 0, .int .i64 0, .slice none 0 0, .slice none 0 0, .slice none 0 0, .slice none 0 0, .slice none 0 0, .slice none 0 0, .int .i64 0, .slice none 0 0, .int .i64 0, .slice none 0 0, .int .i64 0, .int .i64 0, .slice none 0 0, .slice none 0 0, .slice none 0 0, .slice none 0 0, .slice none 0 0, .slice none 0 0] [] :=
  pairR_of (r := badP c) (fe := []) (fd := []) (zeroE_own w B) (zeroE_own w B) (fun _ h => by cases h)
theorem head_at {w : World} {B : Nat} {l : List MsgD} {v : Value} {fp : List Nat} (h : msgsC.own w B l [v] fp) (hl : 0 < l.length) :
    ∃ g o q pm qm, v = .slice (some ⟨g, o, none⟩) l.length q ∧ l.length ≤ q ∧ q ≤ 2 ^ 63 - 1 ∧ w.cell? ⟨g, o, none⟩ = some (.int .i64 (headM l).1) ∧ w.cell? ⟨g, o + 1, none⟩ = some (.slice pm (headM l).2.length qm) ∧ Rd w pm qm (headM l).2 := by
  obtain ⟨p, q, e, r⟩ := msgsC.toRep h
  cases e
  obtain ⟨g, o, rfl, hc⟩ := r.2.2.2 hl
  have h0 : l[0]? = some (headM l) := by
    cases l with
    | nil => simp at hl
    | cons a l => rfl
  obtain ⟨us, hr, hu⟩ := hc 0 _ h0
  obtain ⟨pm, qm, rfl, rm⟩ := msg_rep hr
  have c0 := hu 0 _ rfl
  have c1 := hu 1 _ rfl
  rw [Nat.zero_mul, Nat.add_zero] at c0 c1
  exact ⟨g, o, q, pm, qm, rfl, r.1, r.2.1, c0, c1, rm⟩
theorem stE_send {x : SideD} (h : (stE x).1 = 0) : (stE x).2.2.length = 1 := by
  rw [stE_code] at h
  rw [stE_ok h]
  rfl
theorem hvE_send {e : EndD} {l : List MsgD} (h : (hvE e l).1 = 0) : (hvE e l).2.2.length = 1 := by
  obtain ⟨a, b, c, -, -, -, -, -, h5⟩ := hvE_zero h
  rw [h5]
  rfl
end Go.Proofs.YtdbpnibcblelbaaGreatDoor
/- The contracts of chapter 10's functions in the specification: faults, kinds, packing, at every argument. What was there stays. -/
namespace Go.Proofs.YtdbpnibcblelbaaGreatDoor
open Go.ChangeShapes Go.WideShapes Go.ChangeAt Go.RowKit
theorem rdl_three (w : World) (x y z : Pc) (t : TypeId) (hx : Rd w x.p x.q x.bs) (hy : Rd w y.p y.q y.bs) (hz : Rd w z.p z.q z.bs) :
    RdL bytC (w.alloc (.cells #[x.val, y.val, z.val] t)) (some ⟨w.heap.size, 0, none⟩) 3 [x.bs, y.bs, z.bs] := by
  have hb := alloc_below w (.cells #[x.val, y.val, z.val] t)
  have A := Arr.new w [x.val, y.val, z.val] t
  refine ⟨by simp, by unfold maxLen; decide, (fun e => by cases e), fun _ => ⟨w.heap.size, 0, rfl, fun i a hi => ?_⟩⟩
  match i, hi with
  | 0, hi => cases hi; exact ⟨[x.val], ⟨x.p, x.q, rfl, hx.keep hb⟩, fun j u hj => by
      match j, hj with
      | 0, hj => cases hj; exact A.cell 0⟩
  | 1, hi => cases hi; exact ⟨[y.val], ⟨y.p, y.q, rfl, hy.keep hb⟩, fun j u hj => by
      match j, hj with
      | 0, hj => cases hj; exact A.cell 1⟩
  | 2, hi => cases hi; exact ⟨[z.val], ⟨z.p, z.q, rfl, hz.keep hb⟩, fun j u hj => by
      match j, hj with
      | 0, hj => cases hj; exact A.cell 2⟩
end Go.Proofs.YtdbpnibcblelbaaGreatDoor
/- PackHello of the specification, at every argument. What was there stays. -/
namespace Go.Proofs.YtdbpnibcblelbaaGreatDoor
open Go.ChangeShapes Go.WideShapes Go.ChangeAt Go.RowKit
end Go.Proofs.YtdbpnibcblelbaaGreatDoor
/- UnpackHello of the specification, at every argument. What was there stays. -/
namespace Go.Proofs.YtdbpnibcblelbaaGreatDoor
open Go.ChangeShapes Go.WideShapes Go.ChangeAt Go.RowKit
theorem hello_own {w : World} {B : Nat} {h : HelloD} {u : Value} (k : Own w B u h.1) : helloC.own w B h [u, .int .i64 h.2.1, .int .i64 h.2.2] (u.ownBlock.toList ++ ([] ++ [])) :=
  own_pair (c := bytC) (d := prodC (intC .i64) (intC .i64)) (a := h) (us := [u]) w.heap.size ⟨u, rfl, k, rfl⟩ (own_pair 0 own_int own_int lt_nil (fun _ _ => Nat.zero_le _)) (fun j hj => k.lt j (mem_opt.1 hj)) (ge_app ge_nil ge_nil)
theorem own3 {w : World} {B : Nat} {e : TypeId} {v : Value} {a b c : List UInt8} {xs : List Value} {fp : List Nat} (h : OwnL e bytC w B v [a, b, c] xs fp) :
    ∃ g cap pa qa pb qb pc qc, v = .slice (some ⟨g, 0, none⟩) 3 cap ∧ 3 ≤ cap ∧ cap ≤ 2 ^ 63 - 1 ∧ B ≤ g ∧ w.cell? ⟨g, 0, none⟩ = some (.slice pa a.length qa) ∧ w.cell? ⟨g, 1, none⟩ = some (.slice pb b.length qb) ∧ w.cell? ⟨g, 2, none⟩ = some (.slice pc c.length qc) ∧ Own w B (.slice pa a.length qa) a ∧ Rd w pb qb b ∧ Rd w pc qc c := by
  obtain ⟨us, ys, f, g, hx, hf, ⟨va, e1, oa, -⟩, us2, ys2, f2, g2, hx2, hf2, ⟨vb, e2, ob, -⟩, us3, ys3, f3, g3, hx3, hf3, ⟨vc, e3, oc, -⟩, hz⟩ := h.all
  obtain ⟨pa, qa, rfl, -⟩ := oa.rd
  obtain ⟨pb, qb, rfl, rb⟩ := ob.rd
  obtain ⟨pc, qc, rfl, rc⟩ := oc.rd
  have hxs : xs = [.slice pa a.length qa, .slice pb b.length qb, .slice pc c.length qc] := by rw [hx, e1, hx2, e2, hx3, e3, hz.1]; rfl
  have h0 := h.row
  rcases h.row.2 with ⟨rfl, hn⟩ | ⟨gg, cap, cur, rfl, hb, hg, hle, hm, hs, ht⟩
  · simp at hn
  · have c0 := World.ownsRow.cellAt h0 0 (by show 0 < 3 * 1; decide)
    have c1 := World.ownsRow.cellAt h0 1 (by show 1 < 3 * 1; decide)
    have c2 := World.ownsRow.cellAt h0 2 (by show 2 < 3 * 1; decide)
    rw [hxs] at c0 c1 c2
    exact ⟨gg, cap, pa, qa, pb, qb, pc, qc, rfl, hle, hm, hb, c0, c1, c2, oa, rb, rc⟩
end Go.Proofs.YtdbpnibcblelbaaGreatDoor
/- UnpackHello of the specification, at every argument. What was there stays. -/
namespace Go.Proofs.YtdbpnibcblelbaaGreatDoor
open Go.ChangeShapes Go.WideShapes Go.ChangeAt Go.RowKit
theorem helloR_own {w : World} {B : Nat} {c : Int} {h : HelloD} {u : Value} (k : Own w B u h.1) : helloResultC.own w B (c, h) [.int .i64 c, u, .int .i64 h.2.1, .int .i64 h.2.2] ([] ++ (u.ownBlock.toList ++ ([] ++ []))) :=
  own_pair 0 own_int (hello_own k) lt_nil (fun _ _ => Nat.zero_le _)
end Go.Proofs.YtdbpnibcblelbaaGreatDoor
/- Sides and ends of the specification: l11Side, SideFault, l11Lengths, l11Fault, EndFault, at every argument. What was there stays. -/
namespace Go.Proofs.YtdbpnibcblelbaaGreatDoor
open Go.ChangeShapes Go.WideShapes Go.ChangeAt Go.RowKit
def AtS (w : World) (b o : Nat) (p : Option Addr) (q : Nat) (p2 : Option Addr) (q2 : Nat) (s : SideD) : Prop :=
  w.cell? ⟨b, o, none⟩ = some (.int .i64 s.1) ∧ w.cell? ⟨b, o + 1, none⟩ = some (.slice p s.2.1.length q) ∧ w.cell? ⟨b, o + 2, none⟩ = some (.int .i64 s.2.2.1) ∧ w.cell? ⟨b, o + 3, none⟩ = some (.slice p2 s.2.2.2.length q2)
theorem AtS.keep {w w' : World} {b o q q2 : Nat} {p p2 : Option Addr} {s : SideD} (h : AtS w b o p q p2 q2 s) (hb : Below w.heap.size w w') : AtS w' b o p q p2 q2 s :=
  ⟨cell_keep h.1 hb, cell_keep h.2.1 hb, cell_keep h.2.2.1 hb, cell_keep h.2.2.2 hb⟩
end Go.Proofs.YtdbpnibcblelbaaGreatDoor
/- The contracts of chapter 7's functions in the specification, at every argument: code and bytes. What was there stays. -/
namespace Go.Proofs.YtdbpnibcblelbaaGreatDoor
open Go.ChangeShapes Go.WideShapes Go.ChangeAt Go.RowKit
theorem rd_nil (w : World) : Rd w none 0 [] := ⟨Nat.le_refl _, by unfold maxLen; decide, fun _ => rfl, fun hp => by simp at hp⟩
end Go.Proofs.YtdbpnibcblelbaaGreatDoor
/- The secret of a handshake, digests of messages and finished messages in the specification (l11Secret, l11Digest, l11Finished), written by tools/shk_v.py. What was there stays. -/
namespace Go.Proofs.YtdbpnibcblelbaaGreatDoor
open Go.ChangeShapes Go.WideShapes Go.ChangeAt Go.RowKit
theorem RdL.take {α : Type} {c : Cod α} {w : World} {p : Option Addr} {q : Nat} {l : List α} (h : RdL c w p q l) (n : Nat) : RdL c w p q (l.take n) := by
  obtain ⟨h1, h2, h3, h4⟩ := h
  refine ⟨by rw [List.length_take]; omega, h2, h3, fun hp => ?_⟩
  obtain ⟨b, o, rfl, hc⟩ := h4 (by rw [List.length_take] at hp; omega)
  refine ⟨b, o, rfl, fun i a hi => hc i a ?_⟩
  have hlt := (List.getElem?_eq_some_iff.1 hi).1
  rw [List.length_take] at hlt
  rw [List.getElem?_take_of_lt (by omega)] at hi
  exact hi
theorem RdL.drop {α : Type} {c : Cod α} {w : World} {b o q : Nat} {l : List α} (h : RdL c w (some ⟨b, o, none⟩) q l) (n : Nat) (hn : n ≤ l.length) : RdL c w (some ⟨b, o + n * c.n, none⟩) (q - n) (l.drop n) := by
  obtain ⟨h1, h2, h3, h4⟩ := h
  refine ⟨by rw [List.length_drop]; omega, by omega, (fun e => by cases e), fun hp => ⟨b, o + n * c.n, rfl, fun i a hi => ?_⟩⟩
  obtain ⟨b', o', e, hc⟩ := h4 (by rw [List.length_drop] at hp; omega)
  cases e
  rw [List.getElem?_drop] at hi
  obtain ⟨us, hr, hu⟩ := hc (n + i) a hi
  refine ⟨us, hr, fun j u hj => ?_⟩
  have := hu j u hj
  rw [show o + n * c.n + i * c.n + j = o + (n + i) * c.n + j by rw [Nat.add_mul]; omega]
  exact this
end Go.Proofs.YtdbpnibcblelbaaGreatDoor
/- TranscriptOf, FinishedMsg, CheckFinished of the specification, at every argument. What was there stays. -/
namespace Go.Proofs.YtdbpnibcblelbaaGreatDoor
open Go.ChangeShapes Go.WideShapes Go.ChangeAt Go.RowKit
theorem fmD_bad {s : List UInt8} {l : List MsgD} (h : ¬ fmC s l = 0) : fmD s l = (fmC s l, 0, []) := by rw [fmD, if_neg h]
theorem fmD_ok {s : List UInt8} {l : List MsgD} (h : fmC s l = 0) : fmD s l = (0, 20, fmL s l) := by rw [fmD, if_pos h]
end Go.Proofs.YtdbpnibcblelbaaGreatDoor
/- The contract of SecretsOf in the specification, its answer as one datum (SecretsResultC). -/
namespace Go.Proofs.YtdbpnibcblelbaaGreatDoor
open Go.ChangeShapes Go.WideShapes Go.ChangeAt Go.RowKit
def scD (master digest : List UInt8) : SecretsResultD := (scC master digest, scL master digest cApB, scL master digest sApB, scL master digest expMB, scL master digest resMB)
theorem secretsResult_of {w : World} {B : Nat} {a : SecretsResultD} {u1 u2 u3 u4 : Value} (o1 : Own w B u1 a.2.1) (o2 : Own w B u2 a.2.2.1) (o3 : Own w B u3 a.2.2.2.1) (o4 : Own w B u4 a.2.2.2.2) (hn : (u1.ownBlock.toList ++ (u2.ownBlock.toList ++ (u3.ownBlock.toList ++ u4.ownBlock.toList))).Nodup) :
    secretsResultC.own w B a [.int .i64 a.1, u1, u2, u3, u4] (u1.ownBlock.toList ++ (u2.ownBlock.toList ++ (u3.ownBlock.toList ++ u4.ownBlock.toList))) := by
  have h2 := (List.nodup_append.1 hn).2.1
  have h3 := (List.nodup_append.1 h2).2.1
  exact ⟨[.int .i64 a.1], [u1, u2, u3, u4], [], _, rfl, rfl, hn, ⟨rfl, rfl⟩, ⟨[u1], [u2, u3, u4], _, _, rfl, rfl, hn, ⟨u1, rfl, o1, rfl⟩, ⟨[u2], [u3, u4], _, _, rfl, rfl, h2, ⟨u2, rfl, o2, rfl⟩, ⟨[u3], [u4], _, _, rfl, rfl, h3, ⟨u3, rfl, o3, rfl⟩, ⟨u4, rfl, o4, rfl⟩⟩⟩⟩⟩
end Go.Proofs.YtdbpnibcblelbaaGreatDoor
