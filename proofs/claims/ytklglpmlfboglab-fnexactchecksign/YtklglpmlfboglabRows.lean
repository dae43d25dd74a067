/-
  No cell of these rows narrows 'for every input' (looked for: loops, veiled, ifaces, maps, wideKeys, modest, calm, conditions, laid).
  DERIVED. THE GIVEN ROWS OF THIS SEAT. 3 by the template 'for every input the law returns true; each argument reads behind the call as it read before'; 0 by the template 'total and deterministic' (their statements: YtklglpmlfboglabTotals.lean).
  GIVEN WITH THE SEED: the statements are not yours to turn. If you find one false, say at which input.
  Laid BY PROGRAM, IN A SANDBOX (cutbox-rows.mjs): the forced cells as the released guide's own fill.sh prints them over the translation efa3ceefaaf7a7be… (all of the seat's roots in one cut). By AI agents, Wed Nov 11 2026. No macro, syntax, notation, axiom, sorry.
-/
import Derived.Test.YtklglpmlfboglabChecked
import GoSem.Claim
import GoSem.ClaimJoined
import GoSem.ClaimMapViews
import Derived.JoinedTies
import Derived.KernelRfl
namespace Go.Proofs.Ytklglpmlfboglab
/- THE CELL 'sum', in the pinned program and in every row, IS THE sha256 OF THE DUMP (.gsa) THAT YtklglpmlfboglabProg.lean LOADS. Nothing in Lean hashes anything: it is a label: what it is worth is what the hold of that sum in a sandbox is worth. -/
noncomputable def Try.pinned : Pinned := { name := "ytklglpmlfboglab", sum := "efa3ceefaaf7a7be193af34063651adaf7e196190e495460d72337f0b125b168", checked := Try.checked }
namespace Rows
def none {H : Type} : Left H := { results := [], args := [] }

/-- 'laws.FnExactSignsFault': WHATEVER THE INPUT: true; the input reads as it did. -/
def fnExactSignsFaultSpec : ChangeSpec := { name := "fnExactSignsFault", fn := fun _ => fun
  | [d] => { results := [.lit (.bool true)], args := [d] }
  | _ => none }
def fnExactSignsFaultRow : OpenClaim := { program := "ytklglpmlfboglab", sum := "efa3ceefaaf7a7be193af34063651adaf7e196190e495460d72337f0b125b168", func := "loop.example/g00375/laws.FnExactSignsFault", spec := "fnExactSignsFault", plainKeys := false, apart := false }
def FnExactSignsFaultSaid : Prop := fnExactSignsFaultRow.holds Try.pinned (OpenSpec.ofChange fnExactSignsFaultSpec)

/-- ITS FALSE NEIGHBOUR: 'it returns false'. Refute it at one input. -/
def fnExactSignsFaultWrong : ChangeSpec := { name := "fnExactSignsFault", fn := fun _ => fun
  | [d] => { results := [.lit (.bool false)], args := [d] }
  | _ => none }
def FnExactSignsFaultWrongFalsely : Prop := fnExactSignsFaultRow.holds Try.pinned (OpenSpec.ofChange fnExactSignsFaultWrong)

/-- 'laws.FnExactSignWith': WHATEVER THE INPUT: true; the input reads as it did. -/
def fnExactSignWithSpec : ChangeSpec := { name := "fnExactSignWith", fn := fun _ => fun
  | [d1, d2, d3, d4, d5, d6] => { results := [.lit (.bool true)], args := [d1, d2, d3, d4, d5, d6] }
  | _ => none }
def fnExactSignWithRow : OpenClaim := { program := "ytklglpmlfboglab", sum := "efa3ceefaaf7a7be193af34063651adaf7e196190e495460d72337f0b125b168", func := "loop.example/g00375/laws.FnExactSignWith", spec := "fnExactSignWith", plainKeys := false, apart := false }
def FnExactSignWithSaid : Prop := fnExactSignWithRow.holds Try.pinned (OpenSpec.ofChange fnExactSignWithSpec)

/-- ITS FALSE NEIGHBOUR: 'it returns false'. Refute it at one input. -/
def fnExactSignWithWrong : ChangeSpec := { name := "fnExactSignWith", fn := fun _ => fun
  | [d1, d2, d3, d4, d5, d6] => { results := [.lit (.bool false)], args := [d1, d2, d3, d4, d5, d6] }
  | _ => none }
def FnExactSignWithWrongFalsely : Prop := fnExactSignWithRow.holds Try.pinned (OpenSpec.ofChange fnExactSignWithWrong)

/-- 'laws.FnExactCheckSign': WHATEVER THE INPUT: true; the input reads as it did. -/
def fnExactCheckSignSpec : ChangeSpec := { name := "fnExactCheckSign", fn := fun _ => fun
  | [d1, d2, d3, d4] => { results := [.lit (.bool true)], args := [d1, d2, d3, d4] }
  | _ => none }
def fnExactCheckSignRow : OpenClaim := { program := "ytklglpmlfboglab", sum := "efa3ceefaaf7a7be193af34063651adaf7e196190e495460d72337f0b125b168", func := "loop.example/g00375/laws.FnExactCheckSign", spec := "fnExactCheckSign", plainKeys := false, apart := false }
def FnExactCheckSignSaid : Prop := fnExactCheckSignRow.holds Try.pinned (OpenSpec.ofChange fnExactCheckSignSpec)

/-- ITS FALSE NEIGHBOUR: 'it returns false'. Refute it at one input. -/
def fnExactCheckSignWrong : ChangeSpec := { name := "fnExactCheckSign", fn := fun _ => fun
  | [d1, d2, d3, d4] => { results := [.lit (.bool false)], args := [d1, d2, d3, d4] }
  | _ => none }
def FnExactCheckSignWrongFalsely : Prop := fnExactCheckSignRow.holds Try.pinned (OpenSpec.ofChange fnExactCheckSignWrong)

/- THE SECOND FORM. 'bulk': how many values and letters a reading holds, each counted each time it is reached (what is shared counts as often as it is met; a slice's spare places count too). A statement '..UptoSaid' is the law's where the arguments, and the package variables that the reading takes, are together of bulk at most 1048576: NARROWER than '..Said'. Prove '..Said' where nothing that the law and all that it calls make is longer than what came in: it says more and counts as full. Else prove '..UptoSaid'. A law counts once. -/
mutual
def uptoBulk {H : Type} : DataW H → Nat
  | .lit (.string bytes) => bytes.length + 1
  | .lit _ => 1
  | .nil => 1
  | .ptr d => uptoBulk d + 1
  | .slice elems spare => uptoBulkAll elems + uptoBulkAll spare + 1
  | .agg parts => uptoBulkAll parts + 1
  | .iface _ d => uptoBulk d + 1
  | .map entries => uptoBulkEntries entries + 1
  | .held _ => 1
def uptoBulkAll {H : Type} : List (DataW H) → Nat
  | [] => 0
  | d :: r => uptoBulk d + uptoBulkAll r
def uptoBulkEntries {H : Type} : List (Lit × DataW H) → Nat
  | [] => 0
  | x :: r => uptoBulkEntry x + uptoBulkEntries r
def uptoBulkEntry {H : Type} : Lit × DataW H → Nat
  | (.string bytes, d) => bytes.length + uptoBulk d + 1
  | (_, d) => uptoBulk d + 1
 end
def uptoSmall : (H : Type) → List (DataW H) → Bool := fun _ ds => decide (uptoBulkAll ds ≤ 1048576)
def OpenSpec.upto (s : _root_.Go.ChangeSpec) : _root_.Go.OpenSpec := { _root_.Go.OpenSpec.ofChange s with cond := some uptoSmall }

/-- 'laws.FnExactSignsFault', WHERE WHAT IT READS IS OF BULK AT MOST 1048576: true; the input reads as it did. -/
def fnExactSignsFaultUptoRow : OpenClaim := { program := "ytklglpmlfboglab", sum := "efa3ceefaaf7a7be193af34063651adaf7e196190e495460d72337f0b125b168", func := "loop.example/g00375/laws.FnExactSignsFault", spec := "fnExactSignsFault", plainKeys := false, apart := false, narrowed := true }
def FnExactSignsFaultUptoSaid : Prop := fnExactSignsFaultUptoRow.holds Try.pinned (OpenSpec.upto fnExactSignsFaultSpec)

/-- 'laws.FnExactSignWith', WHERE WHAT IT READS IS OF BULK AT MOST 1048576: true; the input reads as it did. -/
def fnExactSignWithUptoRow : OpenClaim := { program := "ytklglpmlfboglab", sum := "efa3ceefaaf7a7be193af34063651adaf7e196190e495460d72337f0b125b168", func := "loop.example/g00375/laws.FnExactSignWith", spec := "fnExactSignWith", plainKeys := false, apart := false, narrowed := true }
def FnExactSignWithUptoSaid : Prop := fnExactSignWithUptoRow.holds Try.pinned (OpenSpec.upto fnExactSignWithSpec)

/-- 'laws.FnExactCheckSign', WHERE WHAT IT READS IS OF BULK AT MOST 1048576: true; the input reads as it did. -/
def fnExactCheckSignUptoRow : OpenClaim := { program := "ytklglpmlfboglab", sum := "efa3ceefaaf7a7be193af34063651adaf7e196190e495460d72337f0b125b168", func := "loop.example/g00375/laws.FnExactCheckSign", spec := "fnExactCheckSign", plainKeys := false, apart := false, narrowed := true }
def FnExactCheckSignUptoSaid : Prop := fnExactCheckSignUptoRow.holds Try.pinned (OpenSpec.upto fnExactCheckSignSpec)

end Rows
end Go.Proofs.Ytklglpmlfboglab
