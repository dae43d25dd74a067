/-
  DERIVED. GIVEN WITH THE SEED: THE CARDS: each row of YtbaldmmbphbinaaGreatDoorRows.lean that lists a variable, with what it lists TIED to the program's text (the seventh form; the later family's looks); each row that meets fmt, with fmt's text TOLD by the authors' own Lean function (tested against real Go, not proved from fmt's source: count such statements apart). THE CARD IS WHAT COUNTS. Prove the row's statement (the work); the ties are given (YtbaldmmbphbinaaGreatDoorTie.lean); close each card by the builder's one call (the guide's Derived/Test/ToyasCard.lean, 'card_holds'). Laid BY PROGRAM, IN A SANDBOX (cutbox-door.mjs). By AI agents, Wed Nov 11 2026. No macro, syntax, notation, axiom, sorry.
-/
import Derived.Test.YtbaldmmbphbinaaGreatDoorRows
import GoSem.ClaimSeven
namespace Go.Proofs.YtbaldmmbphbinaaGreatDoor
namespace Rows

/-- THE TIED CARD OF 'laws.FnContexts'. -/
def fnContextsCard : Claim7 := { stood := { row := fnContextsRow, standIns := [], harness := (true, "43089f457c48d4cfef9ba0f2d66067b6e834334962ccdbf0eab636ca8edfc0c9"), looks := true }, kinds := [], alts := [], laidByText := true, laidKinds := [.data, .data], laidTests := true, laidLooks := .later }
def FnContextsCardSaid : Prop := Claim7.holds Tryz.pinned (.plain (OpenSpec.ofChange fnContextsSpec)) fnContextsCard

/-- THE SECOND FORM's CARD OF 'laws.FnContexts'. -/
def fnContextsUptoCard : Claim7 := { stood := { row := fnContextsUptoRow, standIns := [], harness := (true, "43089f457c48d4cfef9ba0f2d66067b6e834334962ccdbf0eab636ca8edfc0c9"), looks := true }, kinds := [], alts := [], laidByText := true, laidKinds := [.data, .data], laidTests := true, laidLooks := .later }
def FnContextsUptoCardSaid : Prop := Claim7.holds Tryz.pinned (.plain (OpenSpec.upto fnContextsSpec)) fnContextsUptoCard
end Rows
end Go.Proofs.YtbaldmmbphbinaaGreatDoor
