/- NewSession and HoldsNow of the specification, NewSession of the program, at every argument. What was there stays. -/
import Derived.Test.YthiabbgkfmopiaaGreatSesS
import Derived.Test.YthiabbgkfmopiaaGreatSesI
import Derived.Test.YthiabbgkfmopiaaGreatJoint12
import Derived.Test.YthiabbgkfmopiaaGreatJoint14
import Derived.Test.YthiabbgkfmopiaaGreatJoint18
import Derived.Laws.CopyOwn
import Derived.Laws.Rows
import Derived.Laws.Tables
import Derived.Maps.OwnSet
import Derived.Maps.OwnOps
import Derived.DeepKeys5
import Derived.Test.YthiabbgkfmopiaaGreatJoint7
namespace Go.Proofs.YthiabbgkfmopiaaGreat
open Go.ChangeShapes Go.WideShapes Go.ChangeAt Go.RowKit

def nsD (x : List UInt8) (r : Int) : SessionResultD := if akC x r = 0 then (0, 0, x, r, [], [], []) else (akC x r, 0, [], 0, [], [], [])
theorem ses_own {w : World} {B : Nat} {x : SesD} {u a b c : Value} {fa fb fc : List Nat} (hu : Own w B u x.1) (ha : blksC.own w B x.2.2.1 [a] fa) (hb : blksC.own w B x.2.2.2.1 [b] fb) (hc : holdsC.own w B x.2.2.2.2 [c] fc) (hn : (u.ownBlock.toList ++ (fa ++ (fb ++ fc))).Nodup) :
    sessionC.own w B x [u, .int .i64 x.2.1, a, b, c] (u.ownBlock.toList ++ ([] ++ (fa ++ (fb ++ fc)))) := by
  have h2 := (List.nodup_append.1 hn).2.1
  have h3 := (List.nodup_append.1 h2).2.1
  exact ⟨[u], _, _, _, rfl, rfl, hn, ⟨u, rfl, hu, rfl⟩, [_], _, [], _, rfl, rfl, h2, ⟨rfl, rfl⟩, [a], _, _, _, rfl, rfl, h2, ha, [b], _, _, _, rfl, rfl, h3, hb, hc⟩
theorem nilB_own {w : World} {B : Nat} : blksC.own w B [] [.slice none 0 0] [] := ⟨_, [], [], rfl, ⟨⟨rfl, .inl ⟨rfl, rfl⟩⟩, ⟨rfl, rfl⟩, List.nodup_nil⟩, rfl⟩
theorem nilH_own {w : World} {B : Nat} : holdsC.own w B [] [.slice none 0 0] [] := ⟨_, [], [], rfl, ⟨⟨rfl, .inl ⟨rfl, rfl⟩⟩, ⟨rfl, rfl⟩, List.nodup_nil⟩, rfl⟩
theorem sesR_own {w : World} {B : Nat} {k c : Int} {x : SesD} {us : List Value} {fp : List Nat} (h : sessionC.own w B x us fp) : sessionResultC.own w B (k, c, x) (.int .i64 k :: .int .i64 c :: us) fp :=
  ⟨[_], _, [], _, rfl, rfl, sessionC.nd h, ⟨rfl, rfl⟩, [_], _, [], _, rfl, rfl, sessionC.nd h, ⟨rfl, rfl⟩, h⟩
def zeroSes : SesD := ([], 0, [], [], [])
theorem zeroSes_own {w : World} {B : Nat} : sessionC.own w B zeroSes [.slice none 0 0, .int .i64 0, .slice none 0 0, .slice none 0 0, .slice none 0 0] [] := ses_own (x := zeroSes) (Own_nil _ _) nilB_own nilB_own nilH_own List.nodup_nil
theorem newSes_own {w : World} {B : Nat} {x : List UInt8} {r : Int} {u : Value} (h : Own w B u x) : sessionC.own w B (x, r, [], [], []) [u, .int .i64 r, .slice none 0 0, .slice none 0 0, .slice none 0 0] (u.ownBlock.toList ++ []) := ses_own (x := (x, r, [], [], [])) h nilB_own nilB_own nilH_own (by simpa using nodup_opt _)
theorem akC_is {x : List UInt8} {r : Int} (h : akC x r = 0) : x.length = 32 := by
  unfold akC at h
  cases h1 : is32 x
  · rw [h1] at h; cases h
  · simpa [is32] using h1
theorem nsD_small (x : List UInt8) (r : Int) : sessionResultT (nsD x r) ≤ 1048576 := by
  unfold nsD
  by_cases h : akC x r = 0
  · have hl := akC_is h
    rw [if_pos h]
    simp [sessionResultT, sessionT, sumB, bulkH, hl]
  · rw [if_neg h]
    simp [sessionResultT, sessionT, sumB, bulkH]
end Go.Proofs.YthiabbgkfmopiaaGreat

/- Signatures in a map whose keys are structs, in the program: what a key is (keyV), that two keys of one reading are one; signedAt, signedBy, CheckSign. What was there stays. -/
namespace Go.Proofs.YthiabbgkfmopiaaGreat
open Go.ChangeShapes Go.WideShapes Go.ChangeAt Go.RowKit

def keyL (p c : Int) (d : List UInt8) : List Value := .int .i64 p :: .int .i64 c :: d.map u8v
def keyV (p c : Int) (d : List UInt8) : Value := .agg (keyL p c d).toArray
theorem u8v_inj {a b : UInt8} (h : u8v a = u8v b) : a = b := by
  unfold u8v at h
  injection h with _ h
  exact UInt8.toNat_inj.1 (by omega)
theorem map_u8v_inj : ∀ {d e : List UInt8}, d.map u8v = e.map u8v → d = e
  | [], [], _ => rfl
  | [], _ :: _, h => by simp at h
  | _ :: _, [], h => by simp at h
  | a :: d, b :: e, h => by
    simp only [List.map_cons, List.cons.injEq] at h
    rw [u8v_inj h.1, map_u8v_inj h.2]
theorem keyV_inj {p q c f : Int} {d e : List UInt8} (h : keyV p c d = keyV q f e) : p = q ∧ c = f ∧ d = e := by
  injection h with h
  have h2 : keyL p c d = keyL q f e := by simpa using congrArg Array.toList h
  simp only [keyL, List.cons.injEq, Value.int.injEq, true_and] at h2
  exact ⟨h2.1, h2.2.1, map_u8v_inj h2.2.2⟩
theorem mapM_some {α β : Type} {f : α → Option β} : ∀ {l : List α}, (∀ x ∈ l, ∃ y, f x = some y) → ∃ ys, l.mapM f = some ys
  | [], _ => ⟨[], rfl⟩
  | a :: l, h => by
    obtain ⟨y, hy⟩ := h a (List.mem_cons_self ..)
    obtain ⟨ys, hys⟩ := mapM_some (l := l) (fun x hx => h x (List.mem_cons_of_mem _ hx))
    exact ⟨y :: ys, by simp [List.mapM_cons, hy, hys]⟩
end Go.Proofs.YthiabbgkfmopiaaGreat

/- signedBy and CheckSign of the program, at every argument (written by tools/sign_m.py). What was there stays. -/
namespace Go.Proofs.YthiabbgkfmopiaaGreat
open Go.ChangeShapes Go.WideShapes Go.ChangeAt Go.RowKit

theorem wf_i64 {x : Int} (h1 : -9223372036854775808 ≤ x) (h2 : x ≤ 9223372036854775807) : (Lit.int .i64 x).wf = true := by
  have e1 : IntKind.i64.min = -9223372036854775808 := by kernel_rfl
  have e2 : IntKind.i64.max = 9223372036854775807 := by kernel_rfl
  simp only [Lit.wf, e1, e2, Bool.and_eq_true, decide_eq_true_eq]
  omega
theorem ownsMap_keep {w w' : World} {k : TypeId} {R : Value → Option (DataW Unit × List MemPlace)} {b n : Nat} {D : DataW Unit} (h : w.ownsMap Tryz.prog k R b n D) (hb : Below w.heap.size w w') : w'.ownsMap Tryz.prog k R b n D := by
  obtain ⟨es, c, h1, h2⟩ := h
  exact ⟨es, c, (hb.block b (Array.getElem?_eq_some_iff.1 h1).1).trans h1, h2⟩
end Go.Proofs.YthiabbgkfmopiaaGreat

