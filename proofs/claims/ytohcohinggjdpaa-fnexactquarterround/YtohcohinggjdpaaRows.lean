/-
  No cell of these rows narrows 'for every input' (looked for: loops, veiled, ifaces, maps, wideKeys, modest, calm, conditions, laid).
  DERIVED. THE GIVEN ROWS OF THIS SEAT. 6 by the template 'for every input the law returns true; each argument reads behind the call as it read before'; 0 by the template 'total and deterministic' (their statements: YtohcohinggjdpaaTotals.lean).
  GIVEN WITH THE SEED: the statements are not yours to turn. If you find one false, say at which input.
  Laid BY PROGRAM, IN A SANDBOX (cutbox-rows.mjs): the forced cells as the released guide's own fill.sh prints them over the translation 314e80e1da9d12b8… (all of the seat's roots in one cut). By AI agents, Wed Nov 11 2026. No macro, syntax, notation, axiom, sorry.
-/
import Derived.Test.YtohcohinggjdpaaChecked
import GoSem.Claim
import GoSem.ClaimJoined
import GoSem.ClaimMapViews
import Derived.JoinedTies
import Derived.KernelRfl
namespace Go.Proofs.Ytohcohinggjdpaa
/- THE CELL 'sum', in the pinned program and in every row, IS THE sha256 OF THE DUMP (.gsa) THAT YtohcohinggjdpaaProg.lean LOADS. Nothing in Lean hashes anything: it is a label: what it is worth is what the hold of that sum in a sandbox is worth. -/
noncomputable def Try.pinned : Pinned := { name := "ytohcohinggjdpaa", sum := "314e80e1da9d12b813582668c2867a632ed6c7f2cf85b3cff0d0cabf3ca293fe", checked := Try.checked }
namespace Rows
def none {H : Type} : Left H := { results := [], args := [] }

/-- 'laws.FnStreams': WHATEVER THE INPUT: true; the input reads as it did. -/
def fnStreamsSpec : ChangeSpec := { name := "fnStreams", fn := fun _ => fun
  | [d] => { results := [.lit (.bool true)], args := [d] }
  | _ => none }
def fnStreamsRow : OpenClaim := { program := "ytohcohinggjdpaa", sum := "314e80e1da9d12b813582668c2867a632ed6c7f2cf85b3cff0d0cabf3ca293fe", func := "loop.example/g00375/laws.FnStreams", spec := "fnStreams", unfollowed := true, recurses := true, apart := false }
def FnStreamsSaid : Prop := fnStreamsRow.holds Try.pinned (OpenSpec.ofChange fnStreamsSpec)

/-- ITS FALSE NEIGHBOUR: 'it returns false'. Refute it at one input. -/
def fnStreamsWrong : ChangeSpec := { name := "fnStreams", fn := fun _ => fun
  | [d] => { results := [.lit (.bool false)], args := [d] }
  | _ => none }
def FnStreamsWrongFalsely : Prop := fnStreamsRow.holds Try.pinned (OpenSpec.ofChange fnStreamsWrong)

/-- 'laws.FnQuarters': WHATEVER THE INPUT: true; the input reads as it did. -/
def fnQuartersSpec : ChangeSpec := { name := "fnQuarters", fn := fun _ => fun
  | [d] => { results := [.lit (.bool true)], args := [d] }
  | _ => none }
def fnQuartersRow : OpenClaim := { program := "ytohcohinggjdpaa", sum := "314e80e1da9d12b813582668c2867a632ed6c7f2cf85b3cff0d0cabf3ca293fe", func := "loop.example/g00375/laws.FnQuarters", spec := "fnQuarters", apart := false }
def FnQuartersSaid : Prop := fnQuartersRow.holds Try.pinned (OpenSpec.ofChange fnQuartersSpec)

/-- ITS FALSE NEIGHBOUR: 'it returns false'. Refute it at one input. -/
def fnQuartersWrong : ChangeSpec := { name := "fnQuarters", fn := fun _ => fun
  | [d] => { results := [.lit (.bool false)], args := [d] }
  | _ => none }
def FnQuartersWrongFalsely : Prop := fnQuartersRow.holds Try.pinned (OpenSpec.ofChange fnQuartersWrong)

/-- 'laws.FnExactQuarterRound': WHATEVER THE INPUT: true; the input reads as it did. -/
def fnExactQuarterRoundSpec : ChangeSpec := { name := "fnExactQuarterRound", fn := fun _ => fun
  | [d1, d2, d3, d4, d5] => { results := [.lit (.bool true)], args := [d1, d2, d3, d4, d5] }
  | _ => none }
def fnExactQuarterRoundRow : OpenClaim := { program := "ytohcohinggjdpaa", sum := "314e80e1da9d12b813582668c2867a632ed6c7f2cf85b3cff0d0cabf3ca293fe", func := "loop.example/g00375/laws.FnExactQuarterRound", spec := "fnExactQuarterRound", apart := false }
def FnExactQuarterRoundSaid : Prop := fnExactQuarterRoundRow.holds Try.pinned (OpenSpec.ofChange fnExactQuarterRoundSpec)

/-- ITS FALSE NEIGHBOUR: 'it returns false'. Refute it at one input. -/
def fnExactQuarterRoundWrong : ChangeSpec := { name := "fnExactQuarterRound", fn := fun _ => fun
  | [d1, d2, d3, d4, d5] => { results := [.lit (.bool false)], args := [d1, d2, d3, d4, d5] }
  | _ => none }
def FnExactQuarterRoundWrongFalsely : Prop := fnExactQuarterRoundRow.holds Try.pinned (OpenSpec.ofChange fnExactQuarterRoundWrong)

/-- 'laws.FnExactStartState': WHATEVER THE INPUT: true; the input reads as it did. -/
def fnExactStartStateSpec : ChangeSpec := { name := "fnExactStartState", fn := fun _ => fun
  | [d1, d2, d3] => { results := [.lit (.bool true)], args := [d1, d2, d3] }
  | _ => none }
def fnExactStartStateRow : OpenClaim := { program := "ytohcohinggjdpaa", sum := "314e80e1da9d12b813582668c2867a632ed6c7f2cf85b3cff0d0cabf3ca293fe", func := "loop.example/g00375/laws.FnExactStartState", spec := "fnExactStartState", apart := false }
def FnExactStartStateSaid : Prop := fnExactStartStateRow.holds Try.pinned (OpenSpec.ofChange fnExactStartStateSpec)

/-- ITS FALSE NEIGHBOUR: 'it returns false'. Refute it at one input. -/
def fnExactStartStateWrong : ChangeSpec := { name := "fnExactStartState", fn := fun _ => fun
  | [d1, d2, d3] => { results := [.lit (.bool false)], args := [d1, d2, d3] }
  | _ => none }
def FnExactStartStateWrongFalsely : Prop := fnExactStartStateRow.holds Try.pinned (OpenSpec.ofChange fnExactStartStateWrong)

/-- 'laws.FnExactStreamBlock': WHATEVER THE INPUT: true; the input reads as it did. -/
def fnExactStreamBlockSpec : ChangeSpec := { name := "fnExactStreamBlock", fn := fun _ => fun
  | [d1, d2, d3] => { results := [.lit (.bool true)], args := [d1, d2, d3] }
  | _ => none }
def fnExactStreamBlockRow : OpenClaim := { program := "ytohcohinggjdpaa", sum := "314e80e1da9d12b813582668c2867a632ed6c7f2cf85b3cff0d0cabf3ca293fe", func := "loop.example/g00375/laws.FnExactStreamBlock", spec := "fnExactStreamBlock", unfollowed := true, recurses := true, apart := false }
def FnExactStreamBlockSaid : Prop := fnExactStreamBlockRow.holds Try.pinned (OpenSpec.ofChange fnExactStreamBlockSpec)

/-- ITS FALSE NEIGHBOUR: 'it returns false'. Refute it at one input. -/
def fnExactStreamBlockWrong : ChangeSpec := { name := "fnExactStreamBlock", fn := fun _ => fun
  | [d1, d2, d3] => { results := [.lit (.bool false)], args := [d1, d2, d3] }
  | _ => none }
def FnExactStreamBlockWrongFalsely : Prop := fnExactStreamBlockRow.holds Try.pinned (OpenSpec.ofChange fnExactStreamBlockWrong)

/-- 'laws.FnExactStreamXor': WHATEVER THE INPUT: true; the input reads as it did. -/
def fnExactStreamXorSpec : ChangeSpec := { name := "fnExactStreamXor", fn := fun _ => fun
  | [d1, d2, d3] => { results := [.lit (.bool true)], args := [d1, d2, d3] }
  | _ => none }
def fnExactStreamXorRow : OpenClaim := { program := "ytohcohinggjdpaa", sum := "314e80e1da9d12b813582668c2867a632ed6c7f2cf85b3cff0d0cabf3ca293fe", func := "loop.example/g00375/laws.FnExactStreamXor", spec := "fnExactStreamXor", unfollowed := true, recurses := true, apart := false }
def FnExactStreamXorSaid : Prop := fnExactStreamXorRow.holds Try.pinned (OpenSpec.ofChange fnExactStreamXorSpec)

/-- ITS FALSE NEIGHBOUR: 'it returns false'. Refute it at one input. -/
def fnExactStreamXorWrong : ChangeSpec := { name := "fnExactStreamXor", fn := fun _ => fun
  | [d1, d2, d3] => { results := [.lit (.bool false)], args := [d1, d2, d3] }
  | _ => none }
def FnExactStreamXorWrongFalsely : Prop := fnExactStreamXorRow.holds Try.pinned (OpenSpec.ofChange fnExactStreamXorWrong)

/- THE SECOND FORM. 'bulk': how many values and letters a reading holds, each counted each time it is reached (what is shared counts as often as it is met; a slice's spare places count too). A statement '..UptoSaid' is the law's where the arguments, and the package variables that the reading takes, are together of bulk at most 1048576: NARROWER than '..Said'. Prove '..Said' where nothing that the law and all that it calls make is longer than what came in: it says more and counts as full. Else prove '..UptoSaid'. A law counts once. -/
mutual
def uptoBulk {H : Type} : DataW H → Nat
  | .lit (.string bytes) => bytes.length + 1
  | .lit _ => 1
  | .nil => 1
  | .ptr d => uptoBulk d + 1
  | .slice elems spare => uptoBulkAll elems + uptoBulkAll spare + 1
  | .agg parts => uptoBulkAll parts + 1
  | .iface _ d => uptoBulk d + 1
  | .map entries => uptoBulkEntries entries + 1
  | .held _ => 1
def uptoBulkAll {H : Type} : List (DataW H) → Nat
  | [] => 0
  | d :: r => uptoBulk d + uptoBulkAll r
def uptoBulkEntries {H : Type} : List (Lit × DataW H) → Nat
  | [] => 0
  | x :: r => uptoBulkEntry x + uptoBulkEntries r
def uptoBulkEntry {H : Type} : Lit × DataW H → Nat
  | (.string bytes, d) => bytes.length + uptoBulk d + 1
  | (_, d) => uptoBulk d + 1
 end
def uptoSmall : (H : Type) → List (DataW H) → Bool := fun _ ds => decide (uptoBulkAll ds ≤ 1048576)
def OpenSpec.upto (s : _root_.Go.ChangeSpec) : _root_.Go.OpenSpec := { _root_.Go.OpenSpec.ofChange s with cond := some uptoSmall }

/-- 'laws.FnStreams', WHERE WHAT IT READS IS OF BULK AT MOST 1048576: true; the input reads as it did. -/
def fnStreamsUptoRow : OpenClaim := { program := "ytohcohinggjdpaa", sum := "314e80e1da9d12b813582668c2867a632ed6c7f2cf85b3cff0d0cabf3ca293fe", func := "loop.example/g00375/laws.FnStreams", spec := "fnStreams", unfollowed := true, recurses := true, apart := false, narrowed := true }
def FnStreamsUptoSaid : Prop := fnStreamsUptoRow.holds Try.pinned (OpenSpec.upto fnStreamsSpec)

/-- 'laws.FnQuarters', WHERE WHAT IT READS IS OF BULK AT MOST 1048576: true; the input reads as it did. -/
def fnQuartersUptoRow : OpenClaim := { program := "ytohcohinggjdpaa", sum := "314e80e1da9d12b813582668c2867a632ed6c7f2cf85b3cff0d0cabf3ca293fe", func := "loop.example/g00375/laws.FnQuarters", spec := "fnQuarters", apart := false, narrowed := true }
def FnQuartersUptoSaid : Prop := fnQuartersUptoRow.holds Try.pinned (OpenSpec.upto fnQuartersSpec)

/-- 'laws.FnExactQuarterRound', WHERE WHAT IT READS IS OF BULK AT MOST 1048576: true; the input reads as it did. -/
def fnExactQuarterRoundUptoRow : OpenClaim := { program := "ytohcohinggjdpaa", sum := "314e80e1da9d12b813582668c2867a632ed6c7f2cf85b3cff0d0cabf3ca293fe", func := "loop.example/g00375/laws.FnExactQuarterRound", spec := "fnExactQuarterRound", apart := false, narrowed := true }
def FnExactQuarterRoundUptoSaid : Prop := fnExactQuarterRoundUptoRow.holds Try.pinned (OpenSpec.upto fnExactQuarterRoundSpec)

/-- 'laws.FnExactStartState', WHERE WHAT IT READS IS OF BULK AT MOST 1048576: true; the input reads as it did. -/
def fnExactStartStateUptoRow : OpenClaim := { program := "ytohcohinggjdpaa", sum := "314e80e1da9d12b813582668c2867a632ed6c7f2cf85b3cff0d0cabf3ca293fe", func := "loop.example/g00375/laws.FnExactStartState", spec := "fnExactStartState", apart := false, narrowed := true }
def FnExactStartStateUptoSaid : Prop := fnExactStartStateUptoRow.holds Try.pinned (OpenSpec.upto fnExactStartStateSpec)

/-- 'laws.FnExactStreamBlock', WHERE WHAT IT READS IS OF BULK AT MOST 1048576: true; the input reads as it did. -/
def fnExactStreamBlockUptoRow : OpenClaim := { program := "ytohcohinggjdpaa", sum := "314e80e1da9d12b813582668c2867a632ed6c7f2cf85b3cff0d0cabf3ca293fe", func := "loop.example/g00375/laws.FnExactStreamBlock", spec := "fnExactStreamBlock", unfollowed := true, recurses := true, apart := false, narrowed := true }
def FnExactStreamBlockUptoSaid : Prop := fnExactStreamBlockUptoRow.holds Try.pinned (OpenSpec.upto fnExactStreamBlockSpec)

/-- 'laws.FnExactStreamXor', WHERE WHAT IT READS IS OF BULK AT MOST 1048576: true; the input reads as it did. -/
def fnExactStreamXorUptoRow : OpenClaim := { program := "ytohcohinggjdpaa", sum := "314e80e1da9d12b813582668c2867a632ed6c7f2cf85b3cff0d0cabf3ca293fe", func := "loop.example/g00375/laws.FnExactStreamXor", spec := "fnExactStreamXor", unfollowed := true, recurses := true, apart := false, narrowed := true }
def FnExactStreamXorUptoSaid : Prop := fnExactStreamXorUptoRow.holds Try.pinned (OpenSpec.upto fnExactStreamXorSpec)

end Rows
end Go.Proofs.Ytohcohinggjdpaa
