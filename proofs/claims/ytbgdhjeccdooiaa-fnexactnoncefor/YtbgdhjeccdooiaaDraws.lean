/- The contracts of the draws: they answer numbers within their bounds, and move the source's count on. -/
import Derived.Test.YtbgdhjeccdooiaaRows
import Derived.Test.YtbgdhjeccdooiaaSrc
import Derived.ProofKit
import Derived.OpenShut
import Derived.Deep.QuietTactic
import Derived.BigQuiet
namespace Go.Proofs.Ytbgdhjeccdooiaa
open Go.ChangeShapes Go.WideShapes Go.ChangeAt Go.RowKit



theorem Src.other {w w' : World} {b : Nat} {p : Option Addr} {q : Nat} {cs : List UInt8} {n : Int} {row : Option Nat} (h : Src w b p q cs n) (hg : w.grownBy w' row) (hne : ∀ k, row = some k → b < k) : Src w' b p q cs n :=
  ⟨h.loc.other hg (fun e => by have := hne b e; omega), h.rd.other hg (fun hp y hy e => by have h1 := h.apart hp y hy; have h2 := hne _ e; omega), h.apart⟩




theorem below_of_grown {w w1 w2 : World} (h : Below w.heap.size w w1) (hg : w1.grownBy w2 (some w.heap.size)) : Below w.heap.size w w2 :=
  h.grown hg h.size (fun k hk => by simp at hk; omega)


end Go.Proofs.Ytbgdhjeccdooiaa
