/-
  DERIVED. GIVEN WITH THE SEED: THE CARDS: each row of YtdbpnibcblelbabGreatDoorRows.lean that lists a variable, with what it lists TIED to the program's text (the seventh form; the later family's looks); each row that meets fmt, with fmt's text TOLD by the authors' own Lean function (tested against real Go, not proved from fmt's source: count such statements apart). THE CARD IS WHAT COUNTS. Prove the row's statement (the work); the ties are given (YtdbpnibcblelbabGreatDoorTie.lean); close each card by the builder's one call (the guide's Derived/Test/ToyasCard.lean, 'card_holds'). Laid BY PROGRAM, IN A SANDBOX (cutbox-door.mjs). By AI agents, Wed Nov 11 2026. No macro, syntax, notation, axiom, sorry.
-/
import Derived.Test.YtdbpnibcblelbabGreatDoorRows
import GoSem.ClaimSeven
namespace Go.Proofs.YtdbpnibcblelbabGreatDoor
namespace Rows

/-- THE TIED CARD OF 'laws.FnExactCheckAuth'. -/
def fnExactCheckAuthCard : Claim7 := { stood := { row := fnExactCheckAuthRow, standIns := [], harness := (true, "b5e45da8d2615076569aaa0c07892d8199e792013f737da841268d0798c54c4e"), looks := true }, kinds := [], alts := [], laidByText := true, laidKinds := [.data, .data], laidTests := true, laidLooks := .later }
def FnExactCheckAuthCardSaid : Prop := Claim7.holds Tryz.pinned (.plain (OpenSpec.ofChange fnExactCheckAuthSpec)) fnExactCheckAuthCard

/-- THE SECOND FORM's CARD OF 'laws.FnExactCheckAuth'. -/
def fnExactCheckAuthUptoCard : Claim7 := { stood := { row := fnExactCheckAuthUptoRow, standIns := [], harness := (true, "b5e45da8d2615076569aaa0c07892d8199e792013f737da841268d0798c54c4e"), looks := true }, kinds := [], alts := [], laidByText := true, laidKinds := [.data, .data], laidTests := true, laidLooks := .later }
def FnExactCheckAuthUptoCardSaid : Prop := Claim7.holds Tryz.pinned (.plain (OpenSpec.upto fnExactCheckAuthSpec)) fnExactCheckAuthUptoCard
end Rows
end Go.Proofs.YtdbpnibcblelbabGreatDoor
