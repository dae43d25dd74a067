/-
  No cell of these rows narrows 'for every input' (looked for: loops, veiled, ifaces, maps, wideKeys, modest, calm, conditions, laid).
  DERIVED. THE GIVEN ROWS OF THIS SEAT. 6 by the template 'for every input the law returns true; each argument reads behind the call as it read before'; 0 by the template 'total and deterministic' (their statements: YtoneggbbfjenpaaTotals.lean).
  GIVEN WITH THE SEED: the statements are not yours to turn. If you find one false, say at which input.
  Laid BY PROGRAM, IN A SANDBOX (cutbox-rows.mjs): the forced cells as the released guide's own fill.sh prints them over the translation 203d6136b8878a16… (all of the seat's roots in one cut). By AI agents, Wed Nov 11 2026. No macro, syntax, notation, axiom, sorry.
-/
import Derived.Test.YtoneggbbfjenpaaChecked
import GoSem.Claim
import GoSem.ClaimJoined
import GoSem.ClaimMapViews
import Derived.JoinedTies
import Derived.KernelRfl
namespace Go.Proofs.Ytoneggbbfjenpaa
/- THE CELL 'sum', in the pinned program and in every row, IS THE sha256 OF THE DUMP (.gsa) THAT YtoneggbbfjenpaaProg.lean LOADS. Nothing in Lean hashes anything: it is a label: what it is worth is what the hold of that sum in a sandbox is worth. -/
noncomputable def Try.pinned : Pinned := { name := "ytoneggbbfjenpaa", sum := "203d6136b8878a1627cd51980453a66b48cf2504f31eb517c7cce6cc6ebda711", checked := Try.checked }
namespace Rows
def none {H : Type} : Left H := { results := [], args := [] }

/-- 'laws.FnWires': WHATEVER THE INPUT: true; the input reads as it did. -/
def fnWiresSpec : ChangeSpec := { name := "fnWires", fn := fun _ => fun
  | [d] => { results := [.lit (.bool true)], args := [d] }
  | _ => none }
def fnWiresRow : OpenClaim := { program := "ytoneggbbfjenpaa", sum := "203d6136b8878a1627cd51980453a66b48cf2504f31eb517c7cce6cc6ebda711", func := "loop.example/g00375/laws.FnWires", spec := "fnWires", unfollowed := true, recurses := true, apart := false }
def FnWiresSaid : Prop := fnWiresRow.holds Try.pinned (OpenSpec.ofChange fnWiresSpec)

/-- ITS FALSE NEIGHBOUR: 'it returns false'. Refute it at one input. -/
def fnWiresWrong : ChangeSpec := { name := "fnWires", fn := fun _ => fun
  | [d] => { results := [.lit (.bool false)], args := [d] }
  | _ => none }
def FnWiresWrongFalsely : Prop := fnWiresRow.holds Try.pinned (OpenSpec.ofChange fnWiresWrong)

/-- 'laws.FnBlocks': WHATEVER THE INPUT: true; the input reads as it did. -/
def fnBlocksSpec : ChangeSpec := { name := "fnBlocks", fn := fun _ => fun
  | [d] => { results := [.lit (.bool true)], args := [d] }
  | _ => none }
def fnBlocksRow : OpenClaim := { program := "ytoneggbbfjenpaa", sum := "203d6136b8878a1627cd51980453a66b48cf2504f31eb517c7cce6cc6ebda711", func := "loop.example/g00375/laws.FnBlocks", spec := "fnBlocks", unfollowed := true, recurses := true, apart := false }
def FnBlocksSaid : Prop := fnBlocksRow.holds Try.pinned (OpenSpec.ofChange fnBlocksSpec)

/-- ITS FALSE NEIGHBOUR: 'it returns false'. Refute it at one input. -/
def fnBlocksWrong : ChangeSpec := { name := "fnBlocks", fn := fun _ => fun
  | [d] => { results := [.lit (.bool false)], args := [d] }
  | _ => none }
def FnBlocksWrongFalsely : Prop := fnBlocksRow.holds Try.pinned (OpenSpec.ofChange fnBlocksWrong)

/-- 'laws.FnExactMsgFault': WHATEVER THE INPUT: true; the input reads as it did. -/
def fnExactMsgFaultSpec : ChangeSpec := { name := "fnExactMsgFault", fn := fun _ => fun
  | [d] => { results := [.lit (.bool true)], args := [d] }
  | _ => none }
def fnExactMsgFaultRow : OpenClaim := { program := "ytoneggbbfjenpaa", sum := "203d6136b8878a1627cd51980453a66b48cf2504f31eb517c7cce6cc6ebda711", func := "loop.example/g00375/laws.FnExactMsgFault", spec := "fnExactMsgFault", apart := false }
def FnExactMsgFaultSaid : Prop := fnExactMsgFaultRow.holds Try.pinned (OpenSpec.ofChange fnExactMsgFaultSpec)

/-- ITS FALSE NEIGHBOUR: 'it returns false'. Refute it at one input. -/
def fnExactMsgFaultWrong : ChangeSpec := { name := "fnExactMsgFault", fn := fun _ => fun
  | [d] => { results := [.lit (.bool false)], args := [d] }
  | _ => none }
def FnExactMsgFaultWrongFalsely : Prop := fnExactMsgFaultRow.holds Try.pinned (OpenSpec.ofChange fnExactMsgFaultWrong)

/-- 'laws.FnExactPackMsg': WHATEVER THE INPUT: true; the input reads as it did. -/
def fnExactPackMsgSpec : ChangeSpec := { name := "fnExactPackMsg", fn := fun _ => fun
  | [d] => { results := [.lit (.bool true)], args := [d] }
  | _ => none }
def fnExactPackMsgRow : OpenClaim := { program := "ytoneggbbfjenpaa", sum := "203d6136b8878a1627cd51980453a66b48cf2504f31eb517c7cce6cc6ebda711", func := "loop.example/g00375/laws.FnExactPackMsg", spec := "fnExactPackMsg", unfollowed := true, recurses := true, apart := false }
def FnExactPackMsgSaid : Prop := fnExactPackMsgRow.holds Try.pinned (OpenSpec.ofChange fnExactPackMsgSpec)

/-- ITS FALSE NEIGHBOUR: 'it returns false'. Refute it at one input. -/
def fnExactPackMsgWrong : ChangeSpec := { name := "fnExactPackMsg", fn := fun _ => fun
  | [d] => { results := [.lit (.bool false)], args := [d] }
  | _ => none }
def FnExactPackMsgWrongFalsely : Prop := fnExactPackMsgRow.holds Try.pinned (OpenSpec.ofChange fnExactPackMsgWrong)

/-- 'laws.FnExactPackMsgs': WHATEVER THE INPUT: true; the input reads as it did. -/
def fnExactPackMsgsSpec : ChangeSpec := { name := "fnExactPackMsgs", fn := fun _ => fun
  | [d] => { results := [.lit (.bool true)], args := [d] }
  | _ => none }
def fnExactPackMsgsRow : OpenClaim := { program := "ytoneggbbfjenpaa", sum := "203d6136b8878a1627cd51980453a66b48cf2504f31eb517c7cce6cc6ebda711", func := "loop.example/g00375/laws.FnExactPackMsgs", spec := "fnExactPackMsgs", unfollowed := true, recurses := true, apart := false }
def FnExactPackMsgsSaid : Prop := fnExactPackMsgsRow.holds Try.pinned (OpenSpec.ofChange fnExactPackMsgsSpec)

/-- ITS FALSE NEIGHBOUR: 'it returns false'. Refute it at one input. -/
def fnExactPackMsgsWrong : ChangeSpec := { name := "fnExactPackMsgs", fn := fun _ => fun
  | [d] => { results := [.lit (.bool false)], args := [d] }
  | _ => none }
def FnExactPackMsgsWrongFalsely : Prop := fnExactPackMsgsRow.holds Try.pinned (OpenSpec.ofChange fnExactPackMsgsWrong)

/-- 'laws.FnExactUnpackMsgs': WHATEVER THE INPUT: true; the input reads as it did. -/
def fnExactUnpackMsgsSpec : ChangeSpec := { name := "fnExactUnpackMsgs", fn := fun _ => fun
  | [d] => { results := [.lit (.bool true)], args := [d] }
  | _ => none }
def fnExactUnpackMsgsRow : OpenClaim := { program := "ytoneggbbfjenpaa", sum := "203d6136b8878a1627cd51980453a66b48cf2504f31eb517c7cce6cc6ebda711", func := "loop.example/g00375/laws.FnExactUnpackMsgs", spec := "fnExactUnpackMsgs", apart := false }
def FnExactUnpackMsgsSaid : Prop := fnExactUnpackMsgsRow.holds Try.pinned (OpenSpec.ofChange fnExactUnpackMsgsSpec)

/-- ITS FALSE NEIGHBOUR: 'it returns false'. Refute it at one input. -/
def fnExactUnpackMsgsWrong : ChangeSpec := { name := "fnExactUnpackMsgs", fn := fun _ => fun
  | [d] => { results := [.lit (.bool false)], args := [d] }
  | _ => none }
def FnExactUnpackMsgsWrongFalsely : Prop := fnExactUnpackMsgsRow.holds Try.pinned (OpenSpec.ofChange fnExactUnpackMsgsWrong)

/- THE SECOND FORM. 'bulk': how many values and letters a reading holds, each counted each time it is reached (what is shared counts as often as it is met; a slice's spare places count too). A statement '..UptoSaid' is the law's where the arguments, and the package variables that the reading takes, are together of bulk at most 1048576: NARROWER than '..Said'. Prove '..Said' where nothing that the law and all that it calls make is longer than what came in: it says more and counts as full. Else prove '..UptoSaid'. A law counts once. -/
mutual
def uptoBulk {H : Type} : DataW H → Nat
  | .lit (.string bytes) => bytes.length + 1
  | .lit _ => 1
  | .nil => 1
  | .ptr d => uptoBulk d + 1
  | .slice elems spare => uptoBulkAll elems + uptoBulkAll spare + 1
  | .agg parts => uptoBulkAll parts + 1
  | .iface _ d => uptoBulk d + 1
  | .map entries => uptoBulkEntries entries + 1
  | .held _ => 1
def uptoBulkAll {H : Type} : List (DataW H) → Nat
  | [] => 0
  | d :: r => uptoBulk d + uptoBulkAll r
def uptoBulkEntries {H : Type} : List (Lit × DataW H) → Nat
  | [] => 0
  | x :: r => uptoBulkEntry x + uptoBulkEntries r
def uptoBulkEntry {H : Type} : Lit × DataW H → Nat
  | (.string bytes, d) => bytes.length + uptoBulk d + 1
  | (_, d) => uptoBulk d + 1
 end
def uptoSmall : (H : Type) → List (DataW H) → Bool := fun _ ds => decide (uptoBulkAll ds ≤ 1048576)
def OpenSpec.upto (s : _root_.Go.ChangeSpec) : _root_.Go.OpenSpec := { _root_.Go.OpenSpec.ofChange s with cond := some uptoSmall }

/-- 'laws.FnWires', WHERE WHAT IT READS IS OF BULK AT MOST 1048576: true; the input reads as it did. -/
def fnWiresUptoRow : OpenClaim := { program := "ytoneggbbfjenpaa", sum := "203d6136b8878a1627cd51980453a66b48cf2504f31eb517c7cce6cc6ebda711", func := "loop.example/g00375/laws.FnWires", spec := "fnWires", unfollowed := true, recurses := true, apart := false, narrowed := true }
def FnWiresUptoSaid : Prop := fnWiresUptoRow.holds Try.pinned (OpenSpec.upto fnWiresSpec)

/-- 'laws.FnBlocks', WHERE WHAT IT READS IS OF BULK AT MOST 1048576: true; the input reads as it did. -/
def fnBlocksUptoRow : OpenClaim := { program := "ytoneggbbfjenpaa", sum := "203d6136b8878a1627cd51980453a66b48cf2504f31eb517c7cce6cc6ebda711", func := "loop.example/g00375/laws.FnBlocks", spec := "fnBlocks", unfollowed := true, recurses := true, apart := false, narrowed := true }
def FnBlocksUptoSaid : Prop := fnBlocksUptoRow.holds Try.pinned (OpenSpec.upto fnBlocksSpec)

/-- 'laws.FnExactMsgFault', WHERE WHAT IT READS IS OF BULK AT MOST 1048576: true; the input reads as it did. -/
def fnExactMsgFaultUptoRow : OpenClaim := { program := "ytoneggbbfjenpaa", sum := "203d6136b8878a1627cd51980453a66b48cf2504f31eb517c7cce6cc6ebda711", func := "loop.example/g00375/laws.FnExactMsgFault", spec := "fnExactMsgFault", apart := false, narrowed := true }
def FnExactMsgFaultUptoSaid : Prop := fnExactMsgFaultUptoRow.holds Try.pinned (OpenSpec.upto fnExactMsgFaultSpec)

/-- 'laws.FnExactPackMsg', WHERE WHAT IT READS IS OF BULK AT MOST 1048576: true; the input reads as it did. -/
def fnExactPackMsgUptoRow : OpenClaim := { program := "ytoneggbbfjenpaa", sum := "203d6136b8878a1627cd51980453a66b48cf2504f31eb517c7cce6cc6ebda711", func := "loop.example/g00375/laws.FnExactPackMsg", spec := "fnExactPackMsg", unfollowed := true, recurses := true, apart := false, narrowed := true }
def FnExactPackMsgUptoSaid : Prop := fnExactPackMsgUptoRow.holds Try.pinned (OpenSpec.upto fnExactPackMsgSpec)

/-- 'laws.FnExactPackMsgs', WHERE WHAT IT READS IS OF BULK AT MOST 1048576: true; the input reads as it did. -/
def fnExactPackMsgsUptoRow : OpenClaim := { program := "ytoneggbbfjenpaa", sum := "203d6136b8878a1627cd51980453a66b48cf2504f31eb517c7cce6cc6ebda711", func := "loop.example/g00375/laws.FnExactPackMsgs", spec := "fnExactPackMsgs", unfollowed := true, recurses := true, apart := false, narrowed := true }
def FnExactPackMsgsUptoSaid : Prop := fnExactPackMsgsUptoRow.holds Try.pinned (OpenSpec.upto fnExactPackMsgsSpec)

/-- 'laws.FnExactUnpackMsgs', WHERE WHAT IT READS IS OF BULK AT MOST 1048576: true; the input reads as it did. -/
def fnExactUnpackMsgsUptoRow : OpenClaim := { program := "ytoneggbbfjenpaa", sum := "203d6136b8878a1627cd51980453a66b48cf2504f31eb517c7cce6cc6ebda711", func := "loop.example/g00375/laws.FnExactUnpackMsgs", spec := "fnExactUnpackMsgs", apart := false, narrowed := true }
def FnExactUnpackMsgsUptoSaid : Prop := fnExactUnpackMsgsUptoRow.holds Try.pinned (OpenSpec.upto fnExactUnpackMsgsSpec)

end Rows
end Go.Proofs.Ytoneggbbfjenpaa
