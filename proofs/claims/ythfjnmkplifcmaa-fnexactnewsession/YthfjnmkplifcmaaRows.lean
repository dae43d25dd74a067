/-
  No cell of these rows narrows 'for every input' (looked for: loops, veiled, ifaces, maps, wideKeys, modest, calm, conditions, laid).
  DERIVED. THE GIVEN ROWS OF THIS SEAT. 4 by the template 'for every input the law returns true; each argument reads behind the call as it read before'; 0 by the template 'total and deterministic' (their statements: YthfjnmkplifcmaaTotals.lean).
  GIVEN WITH THE SEED: the statements are not yours to turn. If you find one false, say at which input.
  Laid BY PROGRAM, IN A SANDBOX (cutbox-rows.mjs): the forced cells as the released guide's own fill.sh prints them over the translation f47ce90eff7a5cf1… (all of the seat's roots in one cut). By AI agents, Wed Nov 11 2026. No macro, syntax, notation, axiom, sorry.
-/
import Derived.Test.YthfjnmkplifcmaaChecked
import GoSem.Claim
import GoSem.ClaimJoined
import GoSem.ClaimMapViews
import Derived.JoinedTies
import Derived.KernelRfl
namespace Go.Proofs.Ythfjnmkplifcmaa
/- THE CELL 'sum', in the pinned program and in every row, IS THE sha256 OF THE DUMP (.gsa) THAT YthfjnmkplifcmaaProg.lean LOADS. Nothing in Lean hashes anything: it is a label: what it is worth is what the hold of that sum in a sandbox is worth. -/
noncomputable def Try.pinned : Pinned := { name := "ythfjnmkplifcmaa", sum := "f47ce90eff7a5cf1565b0daaa4ac3b9a1c0b24235eac6d43469352e34c217819", checked := Try.checked }
namespace Rows
def none {H : Type} : Left H := { results := [], args := [] }

/-- 'laws.FnHolds': WHATEVER THE INPUT: true; the input reads as it did. -/
def fnHoldsSpec : ChangeSpec := { name := "fnHolds", fn := fun _ => fun
  | [d] => { results := [.lit (.bool true)], args := [d] }
  | _ => none }
def fnHoldsRow : OpenClaim := { program := "ythfjnmkplifcmaa", sum := "f47ce90eff7a5cf1565b0daaa4ac3b9a1c0b24235eac6d43469352e34c217819", func := "loop.example/g00375/laws.FnHolds", spec := "fnHolds", unfollowed := true, recurses := true, apart := false }
def FnHoldsSaid : Prop := fnHoldsRow.holds Try.pinned (OpenSpec.ofChange fnHoldsSpec)

/-- ITS FALSE NEIGHBOUR: 'it returns false'. Refute it at one input. -/
def fnHoldsWrong : ChangeSpec := { name := "fnHolds", fn := fun _ => fun
  | [d] => { results := [.lit (.bool false)], args := [d] }
  | _ => none }
def FnHoldsWrongFalsely : Prop := fnHoldsRow.holds Try.pinned (OpenSpec.ofChange fnHoldsWrong)

/-- 'laws.FnExactSessionFault': WHATEVER THE INPUT: true; the input reads as it did. -/
def fnExactSessionFaultSpec : ChangeSpec := { name := "fnExactSessionFault", fn := fun _ => fun
  | [d] => { results := [.lit (.bool true)], args := [d] }
  | _ => none }
def fnExactSessionFaultRow : OpenClaim := { program := "ythfjnmkplifcmaa", sum := "f47ce90eff7a5cf1565b0daaa4ac3b9a1c0b24235eac6d43469352e34c217819", func := "loop.example/g00375/laws.FnExactSessionFault", spec := "fnExactSessionFault", apart := false }
def FnExactSessionFaultSaid : Prop := fnExactSessionFaultRow.holds Try.pinned (OpenSpec.ofChange fnExactSessionFaultSpec)

/-- ITS FALSE NEIGHBOUR: 'it returns false'. Refute it at one input. -/
def fnExactSessionFaultWrong : ChangeSpec := { name := "fnExactSessionFault", fn := fun _ => fun
  | [d] => { results := [.lit (.bool false)], args := [d] }
  | _ => none }
def FnExactSessionFaultWrongFalsely : Prop := fnExactSessionFaultRow.holds Try.pinned (OpenSpec.ofChange fnExactSessionFaultWrong)

/-- 'laws.FnExactNewSession': WHATEVER THE INPUT: true; the input reads as it did. -/
def fnExactNewSessionSpec : ChangeSpec := { name := "fnExactNewSession", fn := fun _ => fun
  | [d1, d2] => { results := [.lit (.bool true)], args := [d1, d2] }
  | _ => none }
def fnExactNewSessionRow : OpenClaim := { program := "ythfjnmkplifcmaa", sum := "f47ce90eff7a5cf1565b0daaa4ac3b9a1c0b24235eac6d43469352e34c217819", func := "loop.example/g00375/laws.FnExactNewSession", spec := "fnExactNewSession", apart := false }
def FnExactNewSessionSaid : Prop := fnExactNewSessionRow.holds Try.pinned (OpenSpec.ofChange fnExactNewSessionSpec)

/-- ITS FALSE NEIGHBOUR: 'it returns false'. Refute it at one input. -/
def fnExactNewSessionWrong : ChangeSpec := { name := "fnExactNewSession", fn := fun _ => fun
  | [d1, d2] => { results := [.lit (.bool false)], args := [d1, d2] }
  | _ => none }
def FnExactNewSessionWrongFalsely : Prop := fnExactNewSessionRow.holds Try.pinned (OpenSpec.ofChange fnExactNewSessionWrong)

/-- 'laws.FnExactAskContext': WHATEVER THE INPUT: true; the input reads as it did. -/
def fnExactAskContextSpec : ChangeSpec := { name := "fnExactAskContext", fn := fun _ => fun
  | [d1, d2] => { results := [.lit (.bool true)], args := [d1, d2] }
  | _ => none }
def fnExactAskContextRow : OpenClaim := { program := "ythfjnmkplifcmaa", sum := "f47ce90eff7a5cf1565b0daaa4ac3b9a1c0b24235eac6d43469352e34c217819", func := "loop.example/g00375/laws.FnExactAskContext", spec := "fnExactAskContext", unfollowed := true, recurses := true, apart := false }
def FnExactAskContextSaid : Prop := fnExactAskContextRow.holds Try.pinned (OpenSpec.ofChange fnExactAskContextSpec)

/-- ITS FALSE NEIGHBOUR: 'it returns false'. Refute it at one input. -/
def fnExactAskContextWrong : ChangeSpec := { name := "fnExactAskContext", fn := fun _ => fun
  | [d1, d2] => { results := [.lit (.bool false)], args := [d1, d2] }
  | _ => none }
def FnExactAskContextWrongFalsely : Prop := fnExactAskContextRow.holds Try.pinned (OpenSpec.ofChange fnExactAskContextWrong)

/- THE SECOND FORM. 'bulk': how many values and letters a reading holds, each counted each time it is reached (what is shared counts as often as it is met; a slice's spare places count too). A statement '..UptoSaid' is the law's where the arguments, and the package variables that the reading takes, are together of bulk at most 1048576: NARROWER than '..Said'. Prove '..Said' where nothing that the law and all that it calls make is longer than what came in: it says more and counts as full. Else prove '..UptoSaid'. A law counts once. -/
mutual
def uptoBulk {H : Type} : DataW H → Nat
  | .lit (.string bytes) => bytes.length + 1
  | .lit _ => 1
  | .nil => 1
  | .ptr d => uptoBulk d + 1
  | .slice elems spare => uptoBulkAll elems + uptoBulkAll spare + 1
  | .agg parts => uptoBulkAll parts + 1
  | .iface _ d => uptoBulk d + 1
  | .map entries => uptoBulkEntries entries + 1
  | .held _ => 1
def uptoBulkAll {H : Type} : List (DataW H) → Nat
  | [] => 0
  | d :: r => uptoBulk d + uptoBulkAll r
def uptoBulkEntries {H : Type} : List (Lit × DataW H) → Nat
  | [] => 0
  | x :: r => uptoBulkEntry x + uptoBulkEntries r
def uptoBulkEntry {H : Type} : Lit × DataW H → Nat
  | (.string bytes, d) => bytes.length + uptoBulk d + 1
  | (_, d) => uptoBulk d + 1
 end
def uptoSmall : (H : Type) → List (DataW H) → Bool := fun _ ds => decide (uptoBulkAll ds ≤ 1048576)
def OpenSpec.upto (s : _root_.Go.ChangeSpec) : _root_.Go.OpenSpec := { _root_.Go.OpenSpec.ofChange s with cond := some uptoSmall }

/-- 'laws.FnHolds', WHERE WHAT IT READS IS OF BULK AT MOST 1048576: true; the input reads as it did. -/
def fnHoldsUptoRow : OpenClaim := { program := "ythfjnmkplifcmaa", sum := "f47ce90eff7a5cf1565b0daaa4ac3b9a1c0b24235eac6d43469352e34c217819", func := "loop.example/g00375/laws.FnHolds", spec := "fnHolds", unfollowed := true, recurses := true, apart := false, narrowed := true }
def FnHoldsUptoSaid : Prop := fnHoldsUptoRow.holds Try.pinned (OpenSpec.upto fnHoldsSpec)

/-- 'laws.FnExactSessionFault', WHERE WHAT IT READS IS OF BULK AT MOST 1048576: true; the input reads as it did. -/
def fnExactSessionFaultUptoRow : OpenClaim := { program := "ythfjnmkplifcmaa", sum := "f47ce90eff7a5cf1565b0daaa4ac3b9a1c0b24235eac6d43469352e34c217819", func := "loop.example/g00375/laws.FnExactSessionFault", spec := "fnExactSessionFault", apart := false, narrowed := true }
def FnExactSessionFaultUptoSaid : Prop := fnExactSessionFaultUptoRow.holds Try.pinned (OpenSpec.upto fnExactSessionFaultSpec)

/-- 'laws.FnExactNewSession', WHERE WHAT IT READS IS OF BULK AT MOST 1048576: true; the input reads as it did. -/
def fnExactNewSessionUptoRow : OpenClaim := { program := "ythfjnmkplifcmaa", sum := "f47ce90eff7a5cf1565b0daaa4ac3b9a1c0b24235eac6d43469352e34c217819", func := "loop.example/g00375/laws.FnExactNewSession", spec := "fnExactNewSession", apart := false, narrowed := true }
def FnExactNewSessionUptoSaid : Prop := fnExactNewSessionUptoRow.holds Try.pinned (OpenSpec.upto fnExactNewSessionSpec)

/-- 'laws.FnExactAskContext', WHERE WHAT IT READS IS OF BULK AT MOST 1048576: true; the input reads as it did. -/
def fnExactAskContextUptoRow : OpenClaim := { program := "ythfjnmkplifcmaa", sum := "f47ce90eff7a5cf1565b0daaa4ac3b9a1c0b24235eac6d43469352e34c217819", func := "loop.example/g00375/laws.FnExactAskContext", spec := "fnExactAskContext", unfollowed := true, recurses := true, apart := false, narrowed := true }
def FnExactAskContextUptoSaid : Prop := fnExactAskContextUptoRow.holds Try.pinned (OpenSpec.upto fnExactAskContextSpec)

end Rows
end Go.Proofs.Ythfjnmkplifcmaa
