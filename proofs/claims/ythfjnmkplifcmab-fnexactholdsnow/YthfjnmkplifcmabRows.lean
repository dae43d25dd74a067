/-
  No cell of these rows narrows 'for every input' (looked for: loops, veiled, ifaces, maps, wideKeys, modest, calm, conditions, laid).
  DERIVED. THE GIVEN ROWS OF THIS SEAT. 3 by the template 'for every input the law returns true; each argument reads behind the call as it read before'; 0 by the template 'total and deterministic' (their statements: YthfjnmkplifcmabTotals.lean).
  GIVEN WITH THE SEED: the statements are not yours to turn. If you find one false, say at which input.
  Laid BY PROGRAM, IN A SANDBOX (cutbox-rows.mjs): the forced cells as the released guide's own fill.sh prints them over the translation 95cd68cb2405dee5… (all of the seat's roots in one cut). By AI agents, Wed Nov 11 2026. No macro, syntax, notation, axiom, sorry.
-/
import Derived.Test.YthfjnmkplifcmabChecked
import GoSem.Claim
import GoSem.ClaimJoined
import GoSem.ClaimMapViews
import Derived.JoinedTies
import Derived.KernelRfl
namespace Go.Proofs.Ythfjnmkplifcmab
/- THE CELL 'sum', in the pinned program and in every row, IS THE sha256 OF THE DUMP (.gsa) THAT YthfjnmkplifcmabProg.lean LOADS. Nothing in Lean hashes anything: it is a label: what it is worth is what the hold of that sum in a sandbox is worth. -/
noncomputable def Try.pinned : Pinned := { name := "ythfjnmkplifcmab", sum := "95cd68cb2405dee5f3200019909c2d1870ed5b4591a9ac66a8c77f2bce9c94e6", checked := Try.checked }
namespace Rows
def none {H : Type} : Left H := { results := [], args := [] }

/-- 'laws.FnExactRevokeIn': WHATEVER THE INPUT: true; the input reads as it did. -/
def fnExactRevokeInSpec : ChangeSpec := { name := "fnExactRevokeIn", fn := fun _ => fun
  | [d1, d2] => { results := [.lit (.bool true)], args := [d1, d2] }
  | _ => none }
def fnExactRevokeInRow : OpenClaim := { program := "ythfjnmkplifcmab", sum := "95cd68cb2405dee5f3200019909c2d1870ed5b4591a9ac66a8c77f2bce9c94e6", func := "loop.example/g00375/laws.FnExactRevokeIn", spec := "fnExactRevokeIn", unfollowed := true, recurses := true, apart := false }
def FnExactRevokeInSaid : Prop := fnExactRevokeInRow.holds Try.pinned (OpenSpec.ofChange fnExactRevokeInSpec)

/-- ITS FALSE NEIGHBOUR: 'it returns false'. Refute it at one input. -/
def fnExactRevokeInWrong : ChangeSpec := { name := "fnExactRevokeIn", fn := fun _ => fun
  | [d1, d2] => { results := [.lit (.bool false)], args := [d1, d2] }
  | _ => none }
def FnExactRevokeInWrongFalsely : Prop := fnExactRevokeInRow.holds Try.pinned (OpenSpec.ofChange fnExactRevokeInWrong)

/-- 'laws.FnExactTimeIn': WHATEVER THE INPUT: true; the input reads as it did. -/
def fnExactTimeInSpec : ChangeSpec := { name := "fnExactTimeIn", fn := fun _ => fun
  | [d1, d2] => { results := [.lit (.bool true)], args := [d1, d2] }
  | _ => none }
def fnExactTimeInRow : OpenClaim := { program := "ythfjnmkplifcmab", sum := "95cd68cb2405dee5f3200019909c2d1870ed5b4591a9ac66a8c77f2bce9c94e6", func := "loop.example/g00375/laws.FnExactTimeIn", spec := "fnExactTimeIn", unfollowed := true, recurses := true, apart := false }
def FnExactTimeInSaid : Prop := fnExactTimeInRow.holds Try.pinned (OpenSpec.ofChange fnExactTimeInSpec)

/-- ITS FALSE NEIGHBOUR: 'it returns false'. Refute it at one input. -/
def fnExactTimeInWrong : ChangeSpec := { name := "fnExactTimeIn", fn := fun _ => fun
  | [d1, d2] => { results := [.lit (.bool false)], args := [d1, d2] }
  | _ => none }
def FnExactTimeInWrongFalsely : Prop := fnExactTimeInRow.holds Try.pinned (OpenSpec.ofChange fnExactTimeInWrong)

/-- 'laws.FnExactHoldsNow': WHATEVER THE INPUT: true; the input reads as it did. -/
def fnExactHoldsNowSpec : ChangeSpec := { name := "fnExactHoldsNow", fn := fun _ => fun
  | [d1, d2, d3] => { results := [.lit (.bool true)], args := [d1, d2, d3] }
  | _ => none }
def fnExactHoldsNowRow : OpenClaim := { program := "ythfjnmkplifcmab", sum := "95cd68cb2405dee5f3200019909c2d1870ed5b4591a9ac66a8c77f2bce9c94e6", func := "loop.example/g00375/laws.FnExactHoldsNow", spec := "fnExactHoldsNow", apart := false }
def FnExactHoldsNowSaid : Prop := fnExactHoldsNowRow.holds Try.pinned (OpenSpec.ofChange fnExactHoldsNowSpec)

/-- ITS FALSE NEIGHBOUR: 'it returns false'. Refute it at one input. -/
def fnExactHoldsNowWrong : ChangeSpec := { name := "fnExactHoldsNow", fn := fun _ => fun
  | [d1, d2, d3] => { results := [.lit (.bool false)], args := [d1, d2, d3] }
  | _ => none }
def FnExactHoldsNowWrongFalsely : Prop := fnExactHoldsNowRow.holds Try.pinned (OpenSpec.ofChange fnExactHoldsNowWrong)

/- THE SECOND FORM. 'bulk': how many values and letters a reading holds, each counted each time it is reached (what is shared counts as often as it is met; a slice's spare places count too). A statement '..UptoSaid' is the law's where the arguments, and the package variables that the reading takes, are together of bulk at most 1048576: NARROWER than '..Said'. Prove '..Said' where nothing that the law and all that it calls make is longer than what came in: it says more and counts as full. Else prove '..UptoSaid'. A law counts once. -/
mutual
def uptoBulk {H : Type} : DataW H → Nat
  | .lit (.string bytes) => bytes.length + 1
  | .lit _ => 1
  | .nil => 1
  | .ptr d => uptoBulk d + 1
  | .slice elems spare => uptoBulkAll elems + uptoBulkAll spare + 1
  | .agg parts => uptoBulkAll parts + 1
  | .iface _ d => uptoBulk d + 1
  | .map entries => uptoBulkEntries entries + 1
  | .held _ => 1
def uptoBulkAll {H : Type} : List (DataW H) → Nat
  | [] => 0
  | d :: r => uptoBulk d + uptoBulkAll r
def uptoBulkEntries {H : Type} : List (Lit × DataW H) → Nat
  | [] => 0
  | x :: r => uptoBulkEntry x + uptoBulkEntries r
def uptoBulkEntry {H : Type} : Lit × DataW H → Nat
  | (.string bytes, d) => bytes.length + uptoBulk d + 1
  | (_, d) => uptoBulk d + 1
 end
def uptoSmall : (H : Type) → List (DataW H) → Bool := fun _ ds => decide (uptoBulkAll ds ≤ 1048576)
def OpenSpec.upto (s : _root_.Go.ChangeSpec) : _root_.Go.OpenSpec := { _root_.Go.OpenSpec.ofChange s with cond := some uptoSmall }

/-- 'laws.FnExactRevokeIn', WHERE WHAT IT READS IS OF BULK AT MOST 1048576: true; the input reads as it did. -/
def fnExactRevokeInUptoRow : OpenClaim := { program := "ythfjnmkplifcmab", sum := "95cd68cb2405dee5f3200019909c2d1870ed5b4591a9ac66a8c77f2bce9c94e6", func := "loop.example/g00375/laws.FnExactRevokeIn", spec := "fnExactRevokeIn", unfollowed := true, recurses := true, apart := false, narrowed := true }
def FnExactRevokeInUptoSaid : Prop := fnExactRevokeInUptoRow.holds Try.pinned (OpenSpec.upto fnExactRevokeInSpec)

/-- 'laws.FnExactTimeIn', WHERE WHAT IT READS IS OF BULK AT MOST 1048576: true; the input reads as it did. -/
def fnExactTimeInUptoRow : OpenClaim := { program := "ythfjnmkplifcmab", sum := "95cd68cb2405dee5f3200019909c2d1870ed5b4591a9ac66a8c77f2bce9c94e6", func := "loop.example/g00375/laws.FnExactTimeIn", spec := "fnExactTimeIn", unfollowed := true, recurses := true, apart := false, narrowed := true }
def FnExactTimeInUptoSaid : Prop := fnExactTimeInUptoRow.holds Try.pinned (OpenSpec.upto fnExactTimeInSpec)

/-- 'laws.FnExactHoldsNow', WHERE WHAT IT READS IS OF BULK AT MOST 1048576: true; the input reads as it did. -/
def fnExactHoldsNowUptoRow : OpenClaim := { program := "ythfjnmkplifcmab", sum := "95cd68cb2405dee5f3200019909c2d1870ed5b4591a9ac66a8c77f2bce9c94e6", func := "loop.example/g00375/laws.FnExactHoldsNow", spec := "fnExactHoldsNow", apart := false, narrowed := true }
def FnExactHoldsNowUptoSaid : Prop := fnExactHoldsNowUptoRow.holds Try.pinned (OpenSpec.upto fnExactHoldsNowSpec)

end Rows
end Go.Proofs.Ythfjnmkplifcmab
