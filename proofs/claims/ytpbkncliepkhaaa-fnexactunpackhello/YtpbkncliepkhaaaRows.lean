/-
  No cell of these rows narrows 'for every input' (looked for: loops, veiled, ifaces, maps, wideKeys, modest, calm, conditions, laid).
  DERIVED. THE GIVEN ROWS OF THIS SEAT. 4 by the template 'for every input the law returns true; each argument reads behind the call as it read before'; 0 by the template 'total and deterministic' (their statements: YtpbkncliepkhaaaTotals.lean).
  GIVEN WITH THE SEED: the statements are not yours to turn. If you find one false, say at which input.
  Laid BY PROGRAM, IN A SANDBOX (cutbox-rows.mjs): the forced cells as the released guide's own fill.sh prints them over the translation 072a86a62b187cb4… (all of the seat's roots in one cut). By AI agents, Wed Nov 11 2026. No macro, syntax, notation, axiom, sorry.
-/
import Derived.Test.YtpbkncliepkhaaaChecked
import GoSem.Claim
import GoSem.ClaimJoined
import GoSem.ClaimMapViews
import Derived.JoinedTies
import Derived.KernelRfl
namespace Go.Proofs.Ytpbkncliepkhaaa
/- THE CELL 'sum', in the pinned program and in every row, IS THE sha256 OF THE DUMP (.gsa) THAT YtpbkncliepkhaaaProg.lean LOADS. Nothing in Lean hashes anything: it is a label: what it is worth is what the hold of that sum in a sandbox is worth. -/
noncomputable def Try.pinned : Pinned := { name := "ytpbkncliepkhaaa", sum := "072a86a62b187cb41d834d8017e5a50b213228c497b44c0df00450be46c559bb", checked := Try.checked }
namespace Rows
def none {H : Type} : Left H := { results := [], args := [] }

/-- 'laws.FnHellos': WHATEVER THE INPUT: true; the input reads as it did. -/
def fnHellosSpec : ChangeSpec := { name := "fnHellos", fn := fun _ => fun
  | [d] => { results := [.lit (.bool true)], args := [d] }
  | _ => none }
def fnHellosRow : OpenClaim := { program := "ytpbkncliepkhaaa", sum := "072a86a62b187cb41d834d8017e5a50b213228c497b44c0df00450be46c559bb", func := "loop.example/g00375/laws.FnHellos", spec := "fnHellos", unfollowed := true, recurses := true, apart := false }
def FnHellosSaid : Prop := fnHellosRow.holds Try.pinned (OpenSpec.ofChange fnHellosSpec)

/-- ITS FALSE NEIGHBOUR: 'it returns false'. Refute it at one input. -/
def fnHellosWrong : ChangeSpec := { name := "fnHellos", fn := fun _ => fun
  | [d] => { results := [.lit (.bool false)], args := [d] }
  | _ => none }
def FnHellosWrongFalsely : Prop := fnHellosRow.holds Try.pinned (OpenSpec.ofChange fnHellosWrong)

/-- 'laws.FnExactHelloFault': WHATEVER THE INPUT: true; the input reads as it did. -/
def fnExactHelloFaultSpec : ChangeSpec := { name := "fnExactHelloFault", fn := fun _ => fun
  | [d] => { results := [.lit (.bool true)], args := [d] }
  | _ => none }
def fnExactHelloFaultRow : OpenClaim := { program := "ytpbkncliepkhaaa", sum := "072a86a62b187cb41d834d8017e5a50b213228c497b44c0df00450be46c559bb", func := "loop.example/g00375/laws.FnExactHelloFault", spec := "fnExactHelloFault", apart := false }
def FnExactHelloFaultSaid : Prop := fnExactHelloFaultRow.holds Try.pinned (OpenSpec.ofChange fnExactHelloFaultSpec)

/-- ITS FALSE NEIGHBOUR: 'it returns false'. Refute it at one input. -/
def fnExactHelloFaultWrong : ChangeSpec := { name := "fnExactHelloFault", fn := fun _ => fun
  | [d] => { results := [.lit (.bool false)], args := [d] }
  | _ => none }
def FnExactHelloFaultWrongFalsely : Prop := fnExactHelloFaultRow.holds Try.pinned (OpenSpec.ofChange fnExactHelloFaultWrong)

/-- 'laws.FnExactPackHello': WHATEVER THE INPUT: true; the input reads as it did. -/
def fnExactPackHelloSpec : ChangeSpec := { name := "fnExactPackHello", fn := fun _ => fun
  | [d1, d2] => { results := [.lit (.bool true)], args := [d1, d2] }
  | _ => none }
def fnExactPackHelloRow : OpenClaim := { program := "ytpbkncliepkhaaa", sum := "072a86a62b187cb41d834d8017e5a50b213228c497b44c0df00450be46c559bb", func := "loop.example/g00375/laws.FnExactPackHello", spec := "fnExactPackHello", unfollowed := true, recurses := true, apart := false }
def FnExactPackHelloSaid : Prop := fnExactPackHelloRow.holds Try.pinned (OpenSpec.ofChange fnExactPackHelloSpec)

/-- ITS FALSE NEIGHBOUR: 'it returns false'. Refute it at one input. -/
def fnExactPackHelloWrong : ChangeSpec := { name := "fnExactPackHello", fn := fun _ => fun
  | [d1, d2] => { results := [.lit (.bool false)], args := [d1, d2] }
  | _ => none }
def FnExactPackHelloWrongFalsely : Prop := fnExactPackHelloRow.holds Try.pinned (OpenSpec.ofChange fnExactPackHelloWrong)

/-- 'laws.FnExactUnpackHello': WHATEVER THE INPUT: true; the input reads as it did. -/
def fnExactUnpackHelloSpec : ChangeSpec := { name := "fnExactUnpackHello", fn := fun _ => fun
  | [d1, d2] => { results := [.lit (.bool true)], args := [d1, d2] }
  | _ => none }
def fnExactUnpackHelloRow : OpenClaim := { program := "ytpbkncliepkhaaa", sum := "072a86a62b187cb41d834d8017e5a50b213228c497b44c0df00450be46c559bb", func := "loop.example/g00375/laws.FnExactUnpackHello", spec := "fnExactUnpackHello", apart := false }
def FnExactUnpackHelloSaid : Prop := fnExactUnpackHelloRow.holds Try.pinned (OpenSpec.ofChange fnExactUnpackHelloSpec)

/-- ITS FALSE NEIGHBOUR: 'it returns false'. Refute it at one input. -/
def fnExactUnpackHelloWrong : ChangeSpec := { name := "fnExactUnpackHello", fn := fun _ => fun
  | [d1, d2] => { results := [.lit (.bool false)], args := [d1, d2] }
  | _ => none }
def FnExactUnpackHelloWrongFalsely : Prop := fnExactUnpackHelloRow.holds Try.pinned (OpenSpec.ofChange fnExactUnpackHelloWrong)

/- THE SECOND FORM. 'bulk': how many values and letters a reading holds, each counted each time it is reached (what is shared counts as often as it is met; a slice's spare places count too). A statement '..UptoSaid' is the law's where the arguments, and the package variables that the reading takes, are together of bulk at most 1048576: NARROWER than '..Said'. Prove '..Said' where nothing that the law and all that it calls make is longer than what came in: it says more and counts as full. Else prove '..UptoSaid'. A law counts once. -/
mutual
def uptoBulk {H : Type} : DataW H → Nat
  | .lit (.string bytes) => bytes.length + 1
  | .lit _ => 1
  | .nil => 1
  | .ptr d => uptoBulk d + 1
  | .slice elems spare => uptoBulkAll elems + uptoBulkAll spare + 1
  | .agg parts => uptoBulkAll parts + 1
  | .iface _ d => uptoBulk d + 1
  | .map entries => uptoBulkEntries entries + 1
  | .held _ => 1
def uptoBulkAll {H : Type} : List (DataW H) → Nat
  | [] => 0
  | d :: r => uptoBulk d + uptoBulkAll r
def uptoBulkEntries {H : Type} : List (Lit × DataW H) → Nat
  | [] => 0
  | x :: r => uptoBulkEntry x + uptoBulkEntries r
def uptoBulkEntry {H : Type} : Lit × DataW H → Nat
  | (.string bytes, d) => bytes.length + uptoBulk d + 1
  | (_, d) => uptoBulk d + 1
 end
def uptoSmall : (H : Type) → List (DataW H) → Bool := fun _ ds => decide (uptoBulkAll ds ≤ 1048576)
def OpenSpec.upto (s : _root_.Go.ChangeSpec) : _root_.Go.OpenSpec := { _root_.Go.OpenSpec.ofChange s with cond := some uptoSmall }

/-- 'laws.FnHellos', WHERE WHAT IT READS IS OF BULK AT MOST 1048576: true; the input reads as it did. -/
def fnHellosUptoRow : OpenClaim := { program := "ytpbkncliepkhaaa", sum := "072a86a62b187cb41d834d8017e5a50b213228c497b44c0df00450be46c559bb", func := "loop.example/g00375/laws.FnHellos", spec := "fnHellos", unfollowed := true, recurses := true, apart := false, narrowed := true }
def FnHellosUptoSaid : Prop := fnHellosUptoRow.holds Try.pinned (OpenSpec.upto fnHellosSpec)

/-- 'laws.FnExactHelloFault', WHERE WHAT IT READS IS OF BULK AT MOST 1048576: true; the input reads as it did. -/
def fnExactHelloFaultUptoRow : OpenClaim := { program := "ytpbkncliepkhaaa", sum := "072a86a62b187cb41d834d8017e5a50b213228c497b44c0df00450be46c559bb", func := "loop.example/g00375/laws.FnExactHelloFault", spec := "fnExactHelloFault", apart := false, narrowed := true }
def FnExactHelloFaultUptoSaid : Prop := fnExactHelloFaultUptoRow.holds Try.pinned (OpenSpec.upto fnExactHelloFaultSpec)

/-- 'laws.FnExactPackHello', WHERE WHAT IT READS IS OF BULK AT MOST 1048576: true; the input reads as it did. -/
def fnExactPackHelloUptoRow : OpenClaim := { program := "ytpbkncliepkhaaa", sum := "072a86a62b187cb41d834d8017e5a50b213228c497b44c0df00450be46c559bb", func := "loop.example/g00375/laws.FnExactPackHello", spec := "fnExactPackHello", unfollowed := true, recurses := true, apart := false, narrowed := true }
def FnExactPackHelloUptoSaid : Prop := fnExactPackHelloUptoRow.holds Try.pinned (OpenSpec.upto fnExactPackHelloSpec)

/-- 'laws.FnExactUnpackHello', WHERE WHAT IT READS IS OF BULK AT MOST 1048576: true; the input reads as it did. -/
def fnExactUnpackHelloUptoRow : OpenClaim := { program := "ytpbkncliepkhaaa", sum := "072a86a62b187cb41d834d8017e5a50b213228c497b44c0df00450be46c559bb", func := "loop.example/g00375/laws.FnExactUnpackHello", spec := "fnExactUnpackHello", apart := false, narrowed := true }
def FnExactUnpackHelloUptoSaid : Prop := fnExactUnpackHelloUptoRow.holds Try.pinned (OpenSpec.upto fnExactUnpackHelloSpec)

end Rows
end Go.Proofs.Ytpbkncliepkhaaa
