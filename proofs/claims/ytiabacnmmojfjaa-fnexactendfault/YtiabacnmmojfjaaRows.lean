/-
  No cell of these rows narrows 'for every input' (looked for: loops, veiled, ifaces, maps, wideKeys, modest, calm, conditions, laid).
  DERIVED. THE GIVEN ROWS OF THIS SEAT. 3 by the template 'for every input the law returns true; each argument reads behind the call as it read before'; 0 by the template 'total and deterministic' (their statements: YtiabacnmmojfjaaTotals.lean).
  GIVEN WITH THE SEED: the statements are not yours to turn. If you find one false, say at which input.
  Laid BY PROGRAM, IN A SANDBOX (cutbox-rows.mjs): the forced cells as the released guide's own fill.sh prints them over the translation 4c50ddf695a7796e… (all of the seat's roots in one cut). By AI agents, Wed Nov 11 2026. No macro, syntax, notation, axiom, sorry.
-/
import Derived.Test.YtiabacnmmojfjaaChecked
import GoSem.Claim
import GoSem.ClaimJoined
import GoSem.ClaimMapViews
import Derived.JoinedTies
import Derived.KernelRfl
namespace Go.Proofs.Ytiabacnmmojfjaa
/- THE CELL 'sum', in the pinned program and in every row, IS THE sha256 OF THE DUMP (.gsa) THAT YtiabacnmmojfjaaProg.lean LOADS. Nothing in Lean hashes anything: it is a label: what it is worth is what the hold of that sum in a sandbox is worth. -/
noncomputable def Try.pinned : Pinned := { name := "ytiabacnmmojfjaa", sum := "4c50ddf695a7796e6a76784809d38ddf1a14572a575c8add2b30ce3e7f7981cb", checked := Try.checked }
namespace Rows
def none {H : Type} : Left H := { results := [], args := [] }

/-- 'laws.FnExactSideFault': WHATEVER THE INPUT: true; the input reads as it did. -/
def fnExactSideFaultSpec : ChangeSpec := { name := "fnExactSideFault", fn := fun _ => fun
  | [d] => { results := [.lit (.bool true)], args := [d] }
  | _ => none }
def fnExactSideFaultRow : OpenClaim := { program := "ytiabacnmmojfjaa", sum := "4c50ddf695a7796e6a76784809d38ddf1a14572a575c8add2b30ce3e7f7981cb", func := "loop.example/g00375/laws.FnExactSideFault", spec := "fnExactSideFault", apart := false }
def FnExactSideFaultSaid : Prop := fnExactSideFaultRow.holds Try.pinned (OpenSpec.ofChange fnExactSideFaultSpec)

/-- ITS FALSE NEIGHBOUR: 'it returns false'. Refute it at one input. -/
def fnExactSideFaultWrong : ChangeSpec := { name := "fnExactSideFault", fn := fun _ => fun
  | [d] => { results := [.lit (.bool false)], args := [d] }
  | _ => none }
def FnExactSideFaultWrongFalsely : Prop := fnExactSideFaultRow.holds Try.pinned (OpenSpec.ofChange fnExactSideFaultWrong)

/-- 'laws.FnExactEndFault': WHATEVER THE INPUT: true; the input reads as it did. -/
def fnExactEndFaultSpec : ChangeSpec := { name := "fnExactEndFault", fn := fun _ => fun
  | [d] => { results := [.lit (.bool true)], args := [d] }
  | _ => none }
def fnExactEndFaultRow : OpenClaim := { program := "ytiabacnmmojfjaa", sum := "4c50ddf695a7796e6a76784809d38ddf1a14572a575c8add2b30ce3e7f7981cb", func := "loop.example/g00375/laws.FnExactEndFault", spec := "fnExactEndFault", apart := false }
def FnExactEndFaultSaid : Prop := fnExactEndFaultRow.holds Try.pinned (OpenSpec.ofChange fnExactEndFaultSpec)

/-- ITS FALSE NEIGHBOUR: 'it returns false'. Refute it at one input. -/
def fnExactEndFaultWrong : ChangeSpec := { name := "fnExactEndFault", fn := fun _ => fun
  | [d] => { results := [.lit (.bool false)], args := [d] }
  | _ => none }
def FnExactEndFaultWrongFalsely : Prop := fnExactEndFaultRow.holds Try.pinned (OpenSpec.ofChange fnExactEndFaultWrong)

/-- 'laws.FnExactStartClient': WHATEVER THE INPUT: true; the input reads as it did. -/
def fnExactStartClientSpec : ChangeSpec := { name := "fnExactStartClient", fn := fun _ => fun
  | [d] => { results := [.lit (.bool true)], args := [d] }
  | _ => none }
def fnExactStartClientRow : OpenClaim := { program := "ytiabacnmmojfjaa", sum := "4c50ddf695a7796e6a76784809d38ddf1a14572a575c8add2b30ce3e7f7981cb", func := "loop.example/g00375/laws.FnExactStartClient", spec := "fnExactStartClient", unfollowed := true, recurses := true, apart := false }
def FnExactStartClientSaid : Prop := fnExactStartClientRow.holds Try.pinned (OpenSpec.ofChange fnExactStartClientSpec)

/-- ITS FALSE NEIGHBOUR: 'it returns false'. Refute it at one input. -/
def fnExactStartClientWrong : ChangeSpec := { name := "fnExactStartClient", fn := fun _ => fun
  | [d] => { results := [.lit (.bool false)], args := [d] }
  | _ => none }
def FnExactStartClientWrongFalsely : Prop := fnExactStartClientRow.holds Try.pinned (OpenSpec.ofChange fnExactStartClientWrong)

/- THE SECOND FORM. 'bulk': how many values and letters a reading holds, each counted each time it is reached (what is shared counts as often as it is met; a slice's spare places count too). A statement '..UptoSaid' is the law's where the arguments, and the package variables that the reading takes, are together of bulk at most 1048576: NARROWER than '..Said'. Prove '..Said' where nothing that the law and all that it calls make is longer than what came in: it says more and counts as full. Else prove '..UptoSaid'. A law counts once. -/
mutual
def uptoBulk {H : Type} : DataW H → Nat
  | .lit (.string bytes) => bytes.length + 1
  | .lit _ => 1
  | .nil => 1
  | .ptr d => uptoBulk d + 1
  | .slice elems spare => uptoBulkAll elems + uptoBulkAll spare + 1
  | .agg parts => uptoBulkAll parts + 1
  | .iface _ d => uptoBulk d + 1
  | .map entries => uptoBulkEntries entries + 1
  | .held _ => 1
def uptoBulkAll {H : Type} : List (DataW H) → Nat
  | [] => 0
  | d :: r => uptoBulk d + uptoBulkAll r
def uptoBulkEntries {H : Type} : List (Lit × DataW H) → Nat
  | [] => 0
  | x :: r => uptoBulkEntry x + uptoBulkEntries r
def uptoBulkEntry {H : Type} : Lit × DataW H → Nat
  | (.string bytes, d) => bytes.length + uptoBulk d + 1
  | (_, d) => uptoBulk d + 1
 end
def uptoSmall : (H : Type) → List (DataW H) → Bool := fun _ ds => decide (uptoBulkAll ds ≤ 1048576)
def OpenSpec.upto (s : _root_.Go.ChangeSpec) : _root_.Go.OpenSpec := { _root_.Go.OpenSpec.ofChange s with cond := some uptoSmall }

/-- 'laws.FnExactSideFault', WHERE WHAT IT READS IS OF BULK AT MOST 1048576: true; the input reads as it did. -/
def fnExactSideFaultUptoRow : OpenClaim := { program := "ytiabacnmmojfjaa", sum := "4c50ddf695a7796e6a76784809d38ddf1a14572a575c8add2b30ce3e7f7981cb", func := "loop.example/g00375/laws.FnExactSideFault", spec := "fnExactSideFault", apart := false, narrowed := true }
def FnExactSideFaultUptoSaid : Prop := fnExactSideFaultUptoRow.holds Try.pinned (OpenSpec.upto fnExactSideFaultSpec)

/-- 'laws.FnExactEndFault', WHERE WHAT IT READS IS OF BULK AT MOST 1048576: true; the input reads as it did. -/
def fnExactEndFaultUptoRow : OpenClaim := { program := "ytiabacnmmojfjaa", sum := "4c50ddf695a7796e6a76784809d38ddf1a14572a575c8add2b30ce3e7f7981cb", func := "loop.example/g00375/laws.FnExactEndFault", spec := "fnExactEndFault", apart := false, narrowed := true }
def FnExactEndFaultUptoSaid : Prop := fnExactEndFaultUptoRow.holds Try.pinned (OpenSpec.upto fnExactEndFaultSpec)

/-- 'laws.FnExactStartClient', WHERE WHAT IT READS IS OF BULK AT MOST 1048576: true; the input reads as it did. -/
def fnExactStartClientUptoRow : OpenClaim := { program := "ytiabacnmmojfjaa", sum := "4c50ddf695a7796e6a76784809d38ddf1a14572a575c8add2b30ce3e7f7981cb", func := "loop.example/g00375/laws.FnExactStartClient", spec := "fnExactStartClient", unfollowed := true, recurses := true, apart := false, narrowed := true }
def FnExactStartClientUptoSaid : Prop := fnExactStartClientUptoRow.holds Try.pinned (OpenSpec.upto fnExactStartClientSpec)

end Rows
end Go.Proofs.Ytiabacnmmojfjaa
