/-
  DERIVED. GIVEN WITH THE SEED: THE CARDS: each row of YtdemfbbjdnjolaaGreatDoorRows.lean that lists a variable, with what it lists TIED to the program's text (the seventh form; the later family's looks); each row that meets fmt, with fmt's text TOLD by the authors' own Lean function (tested against real Go, not proved from fmt's source: count such statements apart). THE CARD IS WHAT COUNTS. Prove the row's statement (the work); the ties are given (YtdemfbbjdnjolaaGreatDoorTie.lean); close each card by the builder's one call (the guide's Derived/Test/ToyasCard.lean, 'card_holds'). Laid BY PROGRAM, IN A SANDBOX (cutbox-door.mjs). By AI agents, Wed Nov 11 2026. No macro, syntax, notation, axiom, sorry.
-/
import Derived.Test.YtdemfbbjdnjolaaGreatDoorRows
import GoSem.ClaimSeven
namespace Go.Proofs.YtdemfbbjdnjolaaGreatDoor
namespace Rows

/-- THE TIED CARD OF 'laws.FnRecords'. -/
def fnRecordsCard : Claim7 := { stood := { row := fnRecordsRow, standIns := [], harness := (true, "b323b5e0b63285d8136fa6b053d5ab4efaacb4ca9ccc3f92acbb0fd450e351f9"), looks := true }, kinds := [], alts := [], laidByText := true, laidKinds := [.handle, .data, .data], laidTests := true, laidLooks := .later }
def FnRecordsCardSaid : Prop := Claim7.holds Tryz.pinned (.plain (OpenSpec.ofChange fnRecordsSpec)) fnRecordsCard

/-- THE TIED CARD OF 'laws.FnExactHearRecord'. -/
def fnExactHearRecordCard : Claim7 := { stood := { row := fnExactHearRecordRow, standIns := [], harness := (true, "b323b5e0b63285d8136fa6b053d5ab4efaacb4ca9ccc3f92acbb0fd450e351f9"), looks := true }, kinds := [], alts := [], laidByText := true, laidKinds := [.handle, .data, .data], laidTests := true, laidLooks := .later }
def FnExactHearRecordCardSaid : Prop := Claim7.holds Tryz.pinned (.plain (OpenSpec.ofChange fnExactHearRecordSpec)) fnExactHearRecordCard

/-- THE SECOND FORM's CARD OF 'laws.FnRecords'. -/
def fnRecordsUptoCard : Claim7 := { stood := { row := fnRecordsUptoRow, standIns := [], harness := (true, "b323b5e0b63285d8136fa6b053d5ab4efaacb4ca9ccc3f92acbb0fd450e351f9"), looks := true }, kinds := [], alts := [], laidByText := true, laidKinds := [.handle, .data, .data], laidTests := true, laidLooks := .later }
def FnRecordsUptoCardSaid : Prop := Claim7.holds Tryz.pinned (.plain (OpenSpec.upto fnRecordsSpec)) fnRecordsUptoCard

/-- THE SECOND FORM's CARD OF 'laws.FnExactHearRecord'. -/
def fnExactHearRecordUptoCard : Claim7 := { stood := { row := fnExactHearRecordUptoRow, standIns := [], harness := (true, "b323b5e0b63285d8136fa6b053d5ab4efaacb4ca9ccc3f92acbb0fd450e351f9"), looks := true }, kinds := [], alts := [], laidByText := true, laidKinds := [.handle, .data, .data], laidTests := true, laidLooks := .later }
def FnExactHearRecordUptoCardSaid : Prop := Claim7.holds Tryz.pinned (.plain (OpenSpec.upto fnExactHearRecordSpec)) fnExactHearRecordUptoCard
end Rows
end Go.Proofs.YtdemfbbjdnjolaaGreatDoor
