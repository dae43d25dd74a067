/-
  No cell of these rows narrows 'for every input' (looked for: loops, veiled, ifaces, maps, wideKeys, modest, calm, conditions, laid).
  DERIVED. THE GIVEN ROWS OF THIS SEAT. 3 by the template 'for every input the law returns true; each argument reads behind the call as it read before'; 0 by the template 'total and deterministic' (their statements: YtoneggbbfjenpabTotals.lean).
  GIVEN WITH THE SEED: the statements are not yours to turn. If you find one false, say at which input.
  Laid BY PROGRAM, IN A SANDBOX (cutbox-rows.mjs): the forced cells as the released guide's own fill.sh prints them over the translation 585f7bd5c164bcd1… (all of the seat's roots in one cut). By AI agents, Wed Nov 11 2026. No macro, syntax, notation, axiom, sorry.
-/
import Derived.Test.YtoneggbbfjenpabChecked
import GoSem.Claim
import GoSem.ClaimJoined
import GoSem.ClaimMapViews
import Derived.JoinedTies
import Derived.KernelRfl
namespace Go.Proofs.Ytoneggbbfjenpab
/- THE CELL 'sum', in the pinned program and in every row, IS THE sha256 OF THE DUMP (.gsa) THAT YtoneggbbfjenpabProg.lean LOADS. Nothing in Lean hashes anything: it is a label: what it is worth is what the hold of that sum in a sandbox is worth. -/
noncomputable def Try.pinned : Pinned := { name := "ytoneggbbfjenpab", sum := "585f7bd5c164bcd1a7650397b1f532ba3312029dfdd49d6570ec1264d2337803", checked := Try.checked }
namespace Rows
def none {H : Type} : Left H := { results := [], args := [] }

/-- 'laws.FnExactPackBlocks': WHATEVER THE INPUT: true; the input reads as it did. -/
def fnExactPackBlocksSpec : ChangeSpec := { name := "fnExactPackBlocks", fn := fun _ => fun
  | [d] => { results := [.lit (.bool true)], args := [d] }
  | _ => none }
def fnExactPackBlocksRow : OpenClaim := { program := "ytoneggbbfjenpab", sum := "585f7bd5c164bcd1a7650397b1f532ba3312029dfdd49d6570ec1264d2337803", func := "loop.example/g00375/laws.FnExactPackBlocks", spec := "fnExactPackBlocks", unfollowed := true, recurses := true, apart := false }
def FnExactPackBlocksSaid : Prop := fnExactPackBlocksRow.holds Try.pinned (OpenSpec.ofChange fnExactPackBlocksSpec)

/-- ITS FALSE NEIGHBOUR: 'it returns false'. Refute it at one input. -/
def fnExactPackBlocksWrong : ChangeSpec := { name := "fnExactPackBlocks", fn := fun _ => fun
  | [d] => { results := [.lit (.bool false)], args := [d] }
  | _ => none }
def FnExactPackBlocksWrongFalsely : Prop := fnExactPackBlocksRow.holds Try.pinned (OpenSpec.ofChange fnExactPackBlocksWrong)

/-- 'laws.FnExactUnpackBlocks': WHATEVER THE INPUT: true; the input reads as it did. -/
def fnExactUnpackBlocksSpec : ChangeSpec := { name := "fnExactUnpackBlocks", fn := fun _ => fun
  | [d] => { results := [.lit (.bool true)], args := [d] }
  | _ => none }
def fnExactUnpackBlocksRow : OpenClaim := { program := "ytoneggbbfjenpab", sum := "585f7bd5c164bcd1a7650397b1f532ba3312029dfdd49d6570ec1264d2337803", func := "loop.example/g00375/laws.FnExactUnpackBlocks", spec := "fnExactUnpackBlocks", apart := false }
def FnExactUnpackBlocksSaid : Prop := fnExactUnpackBlocksRow.holds Try.pinned (OpenSpec.ofChange fnExactUnpackBlocksSpec)

/-- ITS FALSE NEIGHBOUR: 'it returns false'. Refute it at one input. -/
def fnExactUnpackBlocksWrong : ChangeSpec := { name := "fnExactUnpackBlocks", fn := fun _ => fun
  | [d] => { results := [.lit (.bool false)], args := [d] }
  | _ => none }
def FnExactUnpackBlocksWrongFalsely : Prop := fnExactUnpackBlocksRow.holds Try.pinned (OpenSpec.ofChange fnExactUnpackBlocksWrong)

/-- 'laws.FnExactSameMsgs': WHATEVER THE INPUT: true; the input reads as it did. -/
def fnExactSameMsgsSpec : ChangeSpec := { name := "fnExactSameMsgs", fn := fun _ => fun
  | [d1, d2] => { results := [.lit (.bool true)], args := [d1, d2] }
  | _ => none }
def fnExactSameMsgsRow : OpenClaim := { program := "ytoneggbbfjenpab", sum := "585f7bd5c164bcd1a7650397b1f532ba3312029dfdd49d6570ec1264d2337803", func := "loop.example/g00375/laws.FnExactSameMsgs", spec := "fnExactSameMsgs", unfollowed := true, recurses := true, apart := false }
def FnExactSameMsgsSaid : Prop := fnExactSameMsgsRow.holds Try.pinned (OpenSpec.ofChange fnExactSameMsgsSpec)

/-- ITS FALSE NEIGHBOUR: 'it returns false'. Refute it at one input. -/
def fnExactSameMsgsWrong : ChangeSpec := { name := "fnExactSameMsgs", fn := fun _ => fun
  | [d1, d2] => { results := [.lit (.bool false)], args := [d1, d2] }
  | _ => none }
def FnExactSameMsgsWrongFalsely : Prop := fnExactSameMsgsRow.holds Try.pinned (OpenSpec.ofChange fnExactSameMsgsWrong)

/- THE SECOND FORM. 'bulk': how many values and letters a reading holds, each counted each time it is reached (what is shared counts as often as it is met; a slice's spare places count too). A statement '..UptoSaid' is the law's where the arguments, and the package variables that the reading takes, are together of bulk at most 1048576: NARROWER than '..Said'. Prove '..Said' where nothing that the law and all that it calls make is longer than what came in: it says more and counts as full. Else prove '..UptoSaid'. A law counts once. -/
mutual
def uptoBulk {H : Type} : DataW H → Nat
  | .lit (.string bytes) => bytes.length + 1
  | .lit _ => 1
  | .nil => 1
  | .ptr d => uptoBulk d + 1
  | .slice elems spare => uptoBulkAll elems + uptoBulkAll spare + 1
  | .agg parts => uptoBulkAll parts + 1
  | .iface _ d => uptoBulk d + 1
  | .map entries => uptoBulkEntries entries + 1
  | .held _ => 1
def uptoBulkAll {H : Type} : List (DataW H) → Nat
  | [] => 0
  | d :: r => uptoBulk d + uptoBulkAll r
def uptoBulkEntries {H : Type} : List (Lit × DataW H) → Nat
  | [] => 0
  | x :: r => uptoBulkEntry x + uptoBulkEntries r
def uptoBulkEntry {H : Type} : Lit × DataW H → Nat
  | (.string bytes, d) => bytes.length + uptoBulk d + 1
  | (_, d) => uptoBulk d + 1
 end
def uptoSmall : (H : Type) → List (DataW H) → Bool := fun _ ds => decide (uptoBulkAll ds ≤ 1048576)
def OpenSpec.upto (s : _root_.Go.ChangeSpec) : _root_.Go.OpenSpec := { _root_.Go.OpenSpec.ofChange s with cond := some uptoSmall }

/-- 'laws.FnExactPackBlocks', WHERE WHAT IT READS IS OF BULK AT MOST 1048576: true; the input reads as it did. -/
def fnExactPackBlocksUptoRow : OpenClaim := { program := "ytoneggbbfjenpab", sum := "585f7bd5c164bcd1a7650397b1f532ba3312029dfdd49d6570ec1264d2337803", func := "loop.example/g00375/laws.FnExactPackBlocks", spec := "fnExactPackBlocks", unfollowed := true, recurses := true, apart := false, narrowed := true }
def FnExactPackBlocksUptoSaid : Prop := fnExactPackBlocksUptoRow.holds Try.pinned (OpenSpec.upto fnExactPackBlocksSpec)

/-- 'laws.FnExactUnpackBlocks', WHERE WHAT IT READS IS OF BULK AT MOST 1048576: true; the input reads as it did. -/
def fnExactUnpackBlocksUptoRow : OpenClaim := { program := "ytoneggbbfjenpab", sum := "585f7bd5c164bcd1a7650397b1f532ba3312029dfdd49d6570ec1264d2337803", func := "loop.example/g00375/laws.FnExactUnpackBlocks", spec := "fnExactUnpackBlocks", apart := false, narrowed := true }
def FnExactUnpackBlocksUptoSaid : Prop := fnExactUnpackBlocksUptoRow.holds Try.pinned (OpenSpec.upto fnExactUnpackBlocksSpec)

/-- 'laws.FnExactSameMsgs', WHERE WHAT IT READS IS OF BULK AT MOST 1048576: true; the input reads as it did. -/
def fnExactSameMsgsUptoRow : OpenClaim := { program := "ytoneggbbfjenpab", sum := "585f7bd5c164bcd1a7650397b1f532ba3312029dfdd49d6570ec1264d2337803", func := "loop.example/g00375/laws.FnExactSameMsgs", spec := "fnExactSameMsgs", unfollowed := true, recurses := true, apart := false, narrowed := true }
def FnExactSameMsgsUptoSaid : Prop := fnExactSameMsgsUptoRow.holds Try.pinned (OpenSpec.upto fnExactSameMsgsSpec)

end Rows
end Go.Proofs.Ytoneggbbfjenpab
