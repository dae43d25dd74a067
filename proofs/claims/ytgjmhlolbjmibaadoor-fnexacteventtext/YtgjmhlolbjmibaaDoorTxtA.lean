/- append of one text to a list of texts that owns its memory. What was there stays. -/
import Derived.Test.YtgjmhlolbjmibaaDoorRows
import Derived.Test.YtgjmhlolbjmibaaDoorTxt
import Derived.Test.YtgjmhlolbjmibaaDoorArr
import Derived.Test.YtgjmhlolbjmibaaDoorCod
import Derived.Test.YtgjmhlolbjmibaaDoorCopy
import Derived.ProofKit
import Derived.Laws.AppendOwn
import Derived.Deep.AppendLies
import Derived.Lib.CutLaws
import Derived.Deep.QuietTactic
import Derived.BigQuiet
namespace Go.Proofs.YtgjmhlolbjmibaaDoor
open Go.ChangeShapes Go.WideShapes Go.ChangeAt Go.RowKit

theorem infoStr : (Tryd.prog.info? 9).map (fun i => (i.zero, i.size, i.bytes)) = some (some (.string ByteArray.empty), 1, 16) := by kernel_rfl
theorem wpList_append_txt {ops : Array Oper} {rest : List Oper} {o : Oper} {a : Act} {Q : Exit → Act → World → Prop} {w : World} {B g : Nat} {v : Value} {out : List (List UInt8)} {t : List UInt8} (hgd : o.guard = none) (s x : Operand)
    (ho : o.op = .call { callee := .builtin .append, args := #[s, x], argTypes := #[34, 34] })
    (hO : OwnX w B v out) (hA : Arr w g 9 [.string (strB t)]) (hs : a.eval s = v) (hx : a.eval x = .slice (some ⟨g, 0, none⟩) 1 1) (hB : B ≤ w.heap.size) (hn : out.length ≤ 1100000)
    (h : ∀ p q w', OwnX w' B (.slice p (out.length + 1) q) (out ++ [t]) → Below B w w' → w.grownBy w' v.ownBlock → (∀ k, (Value.slice p (out.length + 1) q).ownBlock = some k → v.ownBlock = some k ∨ w.heap.size ≤ k) → wpList Tryd.prog ops Q rest (a.put o.dst (.slice p (out.length + 1) q)) w') : wpList Tryd.prog ops Q (o :: rest) a w := by
  obtain ⟨i0, hi, hz0, hz1, hz2⟩ := info_parts infoStr
  have hnew : ∀ j u, ([.string (strB t)] : List Value)[j]? = some u → w.cell? ((⟨g, 0, none⟩ : Addr).add j) = some u := fun j u hj => hA.cells j u hj
  refine wpList_append_lies _ hgd s x 34 ho B 9 i0 (.string ByteArray.empty) 1 16 Tryd.underlying34 hi hz0 hz1 hz2 rfl (by decide) _ out.length (out.map txtV) hs hO ⟨g, 0, none⟩ 1 1 [.string (strB t)] hx rfl hnew (by intro u hu; simp at hu; subst hu; rfl) (by decide) (by unfold maxLen; omega) (by omega) hB _ rfl ?_
  intro g6 c6 w6 hown6 hgrow6 hat6 hlt6
  refine h _ _ _ ?_ ((Below.refl B _).grown hgrow6 hB fun k hk => hO.ge k hk) hgrow6 (fun k hk => by
    have hg : k = g6 := (Option.some.inj hk).symm
    subst hg
    rcases hat6 with h1 | h1
    · exact .inl h1
    · exact .inr (by rw [h1]; exact Nat.le_refl _))
  unfold OwnX
  rw [List.length_append, List.map_append]
  exact hown6
theorem wpList_append_txtB {ops : Array Oper} {rest : List Oper} {o : Oper} {a : Act} {Q : Exit → Act → World → Prop} {w : World} {B g : Nat} {v : Value} {out : List (List UInt8)} {t : List UInt8} {b : ByteArray} (hgd : o.guard = none) (s x : Operand)
    (ho : o.op = .call { callee := .builtin .append, args := #[s, x], argTypes := #[34, 34] })
    (hO : OwnX w B v out) (hb : b = strB t) (hA : Arr w g 9 [.string b]) (hs : a.eval s = v) (hx : a.eval x = .slice (some ⟨g, 0, none⟩) 1 1) (hB : B ≤ w.heap.size) (hn : out.length ≤ 1100000)
    (h : ∀ p q w', OwnX w' B (.slice p (out.length + 1) q) (out ++ [t]) → Below B w w' → w.grownBy w' v.ownBlock → (∀ k, (Value.slice p (out.length + 1) q).ownBlock = some k → v.ownBlock = some k ∨ w.heap.size ≤ k) → wpList Tryd.prog ops Q rest (a.put o.dst (.slice p (out.length + 1) q)) w') : wpList Tryd.prog ops Q (o :: rest) a w :=
  wpList_append_txt hgd s x ho hO (by rw [← hb]; exact hA) hs hx hB hn h
/-- A piece of a text. -/
theorem strB_piece (l : List UInt8) (a b : Nat) : (strB l).extract a b = strB ((l.drop a).take (b - a)) := by
  apply ByteArray.ext
  show ((strB l).extract a b).data = _
  apply Array.toList_inj.1
  rw [Go.Lib.extract_data]
  simp [strB, List.take_drop]
end Go.Proofs.YtgjmhlolbjmibaaDoor
