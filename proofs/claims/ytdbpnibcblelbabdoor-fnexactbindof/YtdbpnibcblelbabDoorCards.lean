/-
  DERIVED. GIVEN WITH THE SEED: THE CARDS: each row of YtdbpnibcblelbabDoorRows.lean that lists a variable, with what it lists TIED to the program's text (the seventh form; the later family's looks); each row that meets fmt, with fmt's text TOLD by the authors' own Lean function (tested against real Go, not proved from fmt's source: count such statements apart). THE CARD IS WHAT COUNTS. Prove the row's statement (the work); the ties are given (YtdbpnibcblelbabDoorTie.lean); close each card by the builder's one call (the guide's Derived/Test/ToyasCard.lean, 'card_holds'). Laid BY PROGRAM, IN A SANDBOX (cutbox-door.mjs). By AI agents, Wed Nov 11 2026. No macro, syntax, notation, axiom, sorry.
-/
import Derived.Test.YtdbpnibcblelbabDoorRows
import GoSem.ClaimSeven
namespace Go.Proofs.YtdbpnibcblelbabDoor
namespace Rows

/-- THE TIED CARD OF 'laws.FnExactBindOf'. -/
def fnExactBindOfCard : Claim7 := { stood := { row := fnExactBindOfRow, standIns := [], harness := (true, "cf924e1b29244aeb0ae5beb2b090b80abb0ceb92339438418970b33aeba149f3"), looks := false }, kinds := [], alts := [], laidByText := true, laidKinds := [.data, .data], laidTests := true, laidLooks := .later }
def FnExactBindOfCardSaid : Prop := Claim7.holds Tryd.pinned (.plain (OpenSpec.ofChange fnExactBindOfSpec)) fnExactBindOfCard

/-- THE SECOND FORM's CARD OF 'laws.FnExactBindOf'. -/
def fnExactBindOfUptoCard : Claim7 := { stood := { row := fnExactBindOfUptoRow, standIns := [], harness := (true, "cf924e1b29244aeb0ae5beb2b090b80abb0ceb92339438418970b33aeba149f3"), looks := false }, kinds := [], alts := [], laidByText := true, laidKinds := [.data, .data], laidTests := true, laidLooks := .later }
def FnExactBindOfUptoCardSaid : Prop := Claim7.holds Tryd.pinned (.plain (OpenSpec.upto fnExactBindOfSpec)) fnExactBindOfUptoCard
end Rows
end Go.Proofs.YtdbpnibcblelbabDoor
