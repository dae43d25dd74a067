/-
  No cell of these rows narrows 'for every input' (looked for: loops, veiled, ifaces, maps, wideKeys, modest, calm, conditions, laid).
  DERIVED. THE GIVEN ROWS OF THIS SEAT. 6 by the template 'for every input the law returns true; each argument reads behind the call as it read before'; 0 by the template 'total and deterministic' (their statements: YtklglpmlfboglaaTotals.lean).
  GIVEN WITH THE SEED: the statements are not yours to turn. If you find one false, say at which input.
  Laid BY PROGRAM, IN A SANDBOX (cutbox-rows.mjs): the forced cells as the released guide's own fill.sh prints them over the translation b614e39a52836a71… (all of the seat's roots in one cut). By AI agents, Wed Nov 11 2026. No macro, syntax, notation, axiom, sorry.
-/
import Derived.Test.YtklglpmlfboglaaChecked
import GoSem.Claim
import GoSem.ClaimJoined
import GoSem.ClaimMapViews
import Derived.JoinedTies
import Derived.KernelRfl
namespace Go.Proofs.Ytklglpmlfboglaa
/- THE CELL 'sum', in the pinned program and in every row, IS THE sha256 OF THE DUMP (.gsa) THAT YtklglpmlfboglaaProg.lean LOADS. Nothing in Lean hashes anything: it is a label: what it is worth is what the hold of that sum in a sandbox is worth. -/
noncomputable def Try.pinned : Pinned := { name := "ytklglpmlfboglaa", sum := "b614e39a52836a716f316b330863f091461d596c3805a8304293445de3a149f1", checked := Try.checked }
namespace Rows
def none {H : Type} : Left H := { results := [], args := [] }

/-- 'laws.FnCerts': WHATEVER THE INPUT: true; the input reads as it did. -/
def fnCertsSpec : ChangeSpec := { name := "fnCerts", fn := fun _ => fun
  | [d] => { results := [.lit (.bool true)], args := [d] }
  | _ => none }
def fnCertsRow : OpenClaim := { program := "ytklglpmlfboglaa", sum := "b614e39a52836a716f316b330863f091461d596c3805a8304293445de3a149f1", func := "loop.example/g00375/laws.FnCerts", spec := "fnCerts", plainKeys := false, apart := false }
def FnCertsSaid : Prop := fnCertsRow.holds Try.pinned (OpenSpec.ofChange fnCertsSpec)

/-- ITS FALSE NEIGHBOUR: 'it returns false'. Refute it at one input. -/
def fnCertsWrong : ChangeSpec := { name := "fnCerts", fn := fun _ => fun
  | [d] => { results := [.lit (.bool false)], args := [d] }
  | _ => none }
def FnCertsWrongFalsely : Prop := fnCertsRow.holds Try.pinned (OpenSpec.ofChange fnCertsWrong)

/-- 'laws.FnSigns': WHATEVER THE INPUT: true; the input reads as it did. -/
def fnSignsSpec : ChangeSpec := { name := "fnSigns", fn := fun _ => fun
  | [d] => { results := [.lit (.bool true)], args := [d] }
  | _ => none }
def fnSignsRow : OpenClaim := { program := "ytklglpmlfboglaa", sum := "b614e39a52836a716f316b330863f091461d596c3805a8304293445de3a149f1", func := "loop.example/g00375/laws.FnSigns", spec := "fnSigns", plainKeys := false, apart := false }
def FnSignsSaid : Prop := fnSignsRow.holds Try.pinned (OpenSpec.ofChange fnSignsSpec)

/-- ITS FALSE NEIGHBOUR: 'it returns false'. Refute it at one input. -/
def fnSignsWrong : ChangeSpec := { name := "fnSigns", fn := fun _ => fun
  | [d] => { results := [.lit (.bool false)], args := [d] }
  | _ => none }
def FnSignsWrongFalsely : Prop := fnSignsRow.holds Try.pinned (OpenSpec.ofChange fnSignsWrong)

/-- 'laws.FnExactCertsFault': WHATEVER THE INPUT: true; the input reads as it did. -/
def fnExactCertsFaultSpec : ChangeSpec := { name := "fnExactCertsFault", fn := fun _ => fun
  | [d] => { results := [.lit (.bool true)], args := [d] }
  | _ => none }
def fnExactCertsFaultRow : OpenClaim := { program := "ytklglpmlfboglaa", sum := "b614e39a52836a716f316b330863f091461d596c3805a8304293445de3a149f1", func := "loop.example/g00375/laws.FnExactCertsFault", spec := "fnExactCertsFault", plainKeys := false, apart := false }
def FnExactCertsFaultSaid : Prop := fnExactCertsFaultRow.holds Try.pinned (OpenSpec.ofChange fnExactCertsFaultSpec)

/-- ITS FALSE NEIGHBOUR: 'it returns false'. Refute it at one input. -/
def fnExactCertsFaultWrong : ChangeSpec := { name := "fnExactCertsFault", fn := fun _ => fun
  | [d] => { results := [.lit (.bool false)], args := [d] }
  | _ => none }
def FnExactCertsFaultWrongFalsely : Prop := fnExactCertsFaultRow.holds Try.pinned (OpenSpec.ofChange fnExactCertsFaultWrong)

/-- 'laws.FnExactPackCert': WHATEVER THE INPUT: true; the input reads as it did. -/
def fnExactPackCertSpec : ChangeSpec := { name := "fnExactPackCert", fn := fun _ => fun
  | [d] => { results := [.lit (.bool true)], args := [d] }
  | _ => none }
def fnExactPackCertRow : OpenClaim := { program := "ytklglpmlfboglaa", sum := "b614e39a52836a716f316b330863f091461d596c3805a8304293445de3a149f1", func := "loop.example/g00375/laws.FnExactPackCert", spec := "fnExactPackCert", plainKeys := false, apart := false }
def FnExactPackCertSaid : Prop := fnExactPackCertRow.holds Try.pinned (OpenSpec.ofChange fnExactPackCertSpec)

/-- ITS FALSE NEIGHBOUR: 'it returns false'. Refute it at one input. -/
def fnExactPackCertWrong : ChangeSpec := { name := "fnExactPackCert", fn := fun _ => fun
  | [d] => { results := [.lit (.bool false)], args := [d] }
  | _ => none }
def FnExactPackCertWrongFalsely : Prop := fnExactPackCertRow.holds Try.pinned (OpenSpec.ofChange fnExactPackCertWrong)

/-- 'laws.FnExactUnpackCert': WHATEVER THE INPUT: true; the input reads as it did. -/
def fnExactUnpackCertSpec : ChangeSpec := { name := "fnExactUnpackCert", fn := fun _ => fun
  | [d] => { results := [.lit (.bool true)], args := [d] }
  | _ => none }
def fnExactUnpackCertRow : OpenClaim := { program := "ytklglpmlfboglaa", sum := "b614e39a52836a716f316b330863f091461d596c3805a8304293445de3a149f1", func := "loop.example/g00375/laws.FnExactUnpackCert", spec := "fnExactUnpackCert", plainKeys := false, apart := false }
def FnExactUnpackCertSaid : Prop := fnExactUnpackCertRow.holds Try.pinned (OpenSpec.ofChange fnExactUnpackCertSpec)

/-- ITS FALSE NEIGHBOUR: 'it returns false'. Refute it at one input. -/
def fnExactUnpackCertWrong : ChangeSpec := { name := "fnExactUnpackCert", fn := fun _ => fun
  | [d] => { results := [.lit (.bool false)], args := [d] }
  | _ => none }
def FnExactUnpackCertWrongFalsely : Prop := fnExactUnpackCertRow.holds Try.pinned (OpenSpec.ofChange fnExactUnpackCertWrong)

/-- 'laws.FnExactLookCert': WHATEVER THE INPUT: true; the input reads as it did. -/
def fnExactLookCertSpec : ChangeSpec := { name := "fnExactLookCert", fn := fun _ => fun
  | [d1, d2] => { results := [.lit (.bool true)], args := [d1, d2] }
  | _ => none }
def fnExactLookCertRow : OpenClaim := { program := "ytklglpmlfboglaa", sum := "b614e39a52836a716f316b330863f091461d596c3805a8304293445de3a149f1", func := "loop.example/g00375/laws.FnExactLookCert", spec := "fnExactLookCert", plainKeys := false, apart := false }
def FnExactLookCertSaid : Prop := fnExactLookCertRow.holds Try.pinned (OpenSpec.ofChange fnExactLookCertSpec)

/-- ITS FALSE NEIGHBOUR: 'it returns false'. Refute it at one input. -/
def fnExactLookCertWrong : ChangeSpec := { name := "fnExactLookCert", fn := fun _ => fun
  | [d1, d2] => { results := [.lit (.bool false)], args := [d1, d2] }
  | _ => none }
def FnExactLookCertWrongFalsely : Prop := fnExactLookCertRow.holds Try.pinned (OpenSpec.ofChange fnExactLookCertWrong)

/- THE SECOND FORM. 'bulk': how many values and letters a reading holds, each counted each time it is reached (what is shared counts as often as it is met; a slice's spare places count too). A statement '..UptoSaid' is the law's where the arguments, and the package variables that the reading takes, are together of bulk at most 1048576: NARROWER than '..Said'. Prove '..Said' where nothing that the law and all that it calls make is longer than what came in: it says more and counts as full. Else prove '..UptoSaid'. A law counts once. -/
mutual
def uptoBulk {H : Type} : DataW H → Nat
  | .lit (.string bytes) => bytes.length + 1
  | .lit _ => 1
  | .nil => 1
  | .ptr d => uptoBulk d + 1
  | .slice elems spare => uptoBulkAll elems + uptoBulkAll spare + 1
  | .agg parts => uptoBulkAll parts + 1
  | .iface _ d => uptoBulk d + 1
  | .map entries => uptoBulkEntries entries + 1
  | .held _ => 1
def uptoBulkAll {H : Type} : List (DataW H) → Nat
  | [] => 0
  | d :: r => uptoBulk d + uptoBulkAll r
def uptoBulkEntries {H : Type} : List (Lit × DataW H) → Nat
  | [] => 0
  | x :: r => uptoBulkEntry x + uptoBulkEntries r
def uptoBulkEntry {H : Type} : Lit × DataW H → Nat
  | (.string bytes, d) => bytes.length + uptoBulk d + 1
  | (_, d) => uptoBulk d + 1
 end
def uptoSmall : (H : Type) → List (DataW H) → Bool := fun _ ds => decide (uptoBulkAll ds ≤ 1048576)
def OpenSpec.upto (s : _root_.Go.ChangeSpec) : _root_.Go.OpenSpec := { _root_.Go.OpenSpec.ofChange s with cond := some uptoSmall }

/-- 'laws.FnCerts', WHERE WHAT IT READS IS OF BULK AT MOST 1048576: true; the input reads as it did. -/
def fnCertsUptoRow : OpenClaim := { program := "ytklglpmlfboglaa", sum := "b614e39a52836a716f316b330863f091461d596c3805a8304293445de3a149f1", func := "loop.example/g00375/laws.FnCerts", spec := "fnCerts", plainKeys := false, apart := false, narrowed := true }
def FnCertsUptoSaid : Prop := fnCertsUptoRow.holds Try.pinned (OpenSpec.upto fnCertsSpec)

/-- 'laws.FnSigns', WHERE WHAT IT READS IS OF BULK AT MOST 1048576: true; the input reads as it did. -/
def fnSignsUptoRow : OpenClaim := { program := "ytklglpmlfboglaa", sum := "b614e39a52836a716f316b330863f091461d596c3805a8304293445de3a149f1", func := "loop.example/g00375/laws.FnSigns", spec := "fnSigns", plainKeys := false, apart := false, narrowed := true }
def FnSignsUptoSaid : Prop := fnSignsUptoRow.holds Try.pinned (OpenSpec.upto fnSignsSpec)

/-- 'laws.FnExactCertsFault', WHERE WHAT IT READS IS OF BULK AT MOST 1048576: true; the input reads as it did. -/
def fnExactCertsFaultUptoRow : OpenClaim := { program := "ytklglpmlfboglaa", sum := "b614e39a52836a716f316b330863f091461d596c3805a8304293445de3a149f1", func := "loop.example/g00375/laws.FnExactCertsFault", spec := "fnExactCertsFault", plainKeys := false, apart := false, narrowed := true }
def FnExactCertsFaultUptoSaid : Prop := fnExactCertsFaultUptoRow.holds Try.pinned (OpenSpec.upto fnExactCertsFaultSpec)

/-- 'laws.FnExactPackCert', WHERE WHAT IT READS IS OF BULK AT MOST 1048576: true; the input reads as it did. -/
def fnExactPackCertUptoRow : OpenClaim := { program := "ytklglpmlfboglaa", sum := "b614e39a52836a716f316b330863f091461d596c3805a8304293445de3a149f1", func := "loop.example/g00375/laws.FnExactPackCert", spec := "fnExactPackCert", plainKeys := false, apart := false, narrowed := true }
def FnExactPackCertUptoSaid : Prop := fnExactPackCertUptoRow.holds Try.pinned (OpenSpec.upto fnExactPackCertSpec)

/-- 'laws.FnExactUnpackCert', WHERE WHAT IT READS IS OF BULK AT MOST 1048576: true; the input reads as it did. -/
def fnExactUnpackCertUptoRow : OpenClaim := { program := "ytklglpmlfboglaa", sum := "b614e39a52836a716f316b330863f091461d596c3805a8304293445de3a149f1", func := "loop.example/g00375/laws.FnExactUnpackCert", spec := "fnExactUnpackCert", plainKeys := false, apart := false, narrowed := true }
def FnExactUnpackCertUptoSaid : Prop := fnExactUnpackCertUptoRow.holds Try.pinned (OpenSpec.upto fnExactUnpackCertSpec)

/-- 'laws.FnExactLookCert', WHERE WHAT IT READS IS OF BULK AT MOST 1048576: true; the input reads as it did. -/
def fnExactLookCertUptoRow : OpenClaim := { program := "ytklglpmlfboglaa", sum := "b614e39a52836a716f316b330863f091461d596c3805a8304293445de3a149f1", func := "loop.example/g00375/laws.FnExactLookCert", spec := "fnExactLookCert", plainKeys := false, apart := false, narrowed := true }
def FnExactLookCertUptoSaid : Prop := fnExactLookCertUptoRow.holds Try.pinned (OpenSpec.upto fnExactLookCertSpec)

end Rows
end Go.Proofs.Ytklglpmlfboglaa
