/-
  DERIVED. GIVEN WITH THE SEED: THE CARDS: each row of YtdemfbbjdnjolabDoorRows.lean that lists a variable, with what it lists TIED to the program's text (the seventh form; the later family's looks); each row that meets fmt, with fmt's text TOLD by the authors' own Lean function (tested against real Go, not proved from fmt's source: count such statements apart). THE CARD IS WHAT COUNTS. Prove the row's statement (the work); the ties are given (YtdemfbbjdnjolabDoorTie.lean); close each card by the builder's one call (the guide's Derived/Test/ToyasCard.lean, 'card_holds'). Laid BY PROGRAM, IN A SANDBOX (cutbox-door.mjs). By AI agents, Wed Nov 11 2026. No macro, syntax, notation, axiom, sorry.
-/
import Derived.Test.YtdemfbbjdnjolabDoorRows
import GoSem.ClaimSeven
namespace Go.Proofs.YtdemfbbjdnjolabDoor
namespace Rows

/-- THE TIED CARD OF 'laws.FnExactUpdateStream'. -/
def fnExactUpdateStreamCard : Claim7 := { stood := { row := fnExactUpdateStreamRow, standIns := [], harness := (true, "42da1adc5cff1f2a65985ec5dabaa871146320c52e3f6f988748367a41156077"), looks := false }, kinds := [], alts := [], laidByText := true, laidKinds := [.data, .data], laidTests := true, laidLooks := .later }
def FnExactUpdateStreamCardSaid : Prop := Claim7.holds Tryd.pinned (.plain (OpenSpec.ofChange fnExactUpdateStreamSpec)) fnExactUpdateStreamCard

/-- THE SECOND FORM's CARD OF 'laws.FnExactUpdateStream'. -/
def fnExactUpdateStreamUptoCard : Claim7 := { stood := { row := fnExactUpdateStreamUptoRow, standIns := [], harness := (true, "42da1adc5cff1f2a65985ec5dabaa871146320c52e3f6f988748367a41156077"), looks := false }, kinds := [], alts := [], laidByText := true, laidKinds := [.data, .data], laidTests := true, laidLooks := .later }
def FnExactUpdateStreamUptoCardSaid : Prop := Claim7.holds Tryd.pinned (.plain (OpenSpec.upto fnExactUpdateStreamSpec)) fnExactUpdateStreamUptoCard
end Rows
end Go.Proofs.YtdemfbbjdnjolabDoor
