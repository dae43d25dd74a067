/-
  DERIVED. GIVEN WITH THE SEED: THE CARDS: each row of YthkiabcbpkhgiabDoorRows.lean that lists a variable, with what it lists TIED to the program's text (the seventh form; the later family's looks); each row that meets fmt, with fmt's text TOLD by the authors' own Lean function (tested against real Go, not proved from fmt's source: count such statements apart). THE CARD IS WHAT COUNTS. Prove the row's statement (the work); the ties are given (YthkiabcbpkhgiabDoorTie.lean); close each card by the builder's one call (the guide's Derived/Test/ToyasCard.lean, 'card_holds'). Laid BY PROGRAM, IN A SANDBOX (cutbox-door.mjs). By AI agents, Wed Nov 11 2026. No macro, syntax, notation, axiom, sorry.
-/
import Derived.Test.YthkiabcbpkhgiabDoorRows
import GoSem.ClaimSeven
namespace Go.Proofs.YthkiabcbpkhgiabDoor
namespace Rows

/-- THE TIED CARD OF 'laws.FnExactExportKey'. -/
def fnExactExportKeyCard : Claim7 := { stood := { row := fnExactExportKeyRow, standIns := [], harness := (true, "37e2b223e8145a5070a6fded583bac8e69589ccd78ef65991e3f58f3b38c7550"), looks := false }, kinds := [], alts := [], laidByText := true, laidKinds := [.data, .data], laidTests := true, laidLooks := .later }
def FnExactExportKeyCardSaid : Prop := Claim7.holds Tryd.pinned (.plain (OpenSpec.ofChange fnExactExportKeySpec)) fnExactExportKeyCard

/-- THE SECOND FORM's CARD OF 'laws.FnExactExportKey'. -/
def fnExactExportKeyUptoCard : Claim7 := { stood := { row := fnExactExportKeyUptoRow, standIns := [], harness := (true, "37e2b223e8145a5070a6fded583bac8e69589ccd78ef65991e3f58f3b38c7550"), looks := false }, kinds := [], alts := [], laidByText := true, laidKinds := [.data, .data], laidTests := true, laidLooks := .later }
def FnExactExportKeyUptoCardSaid : Prop := Claim7.holds Tryd.pinned (.plain (OpenSpec.upto fnExactExportKeySpec)) fnExactExportKeyUptoCard
end Rows
end Go.Proofs.YthkiabcbpkhgiabDoor
