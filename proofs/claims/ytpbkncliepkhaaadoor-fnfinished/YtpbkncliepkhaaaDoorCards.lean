/-
  DERIVED. GIVEN WITH THE SEED: THE CARDS: each row of YtpbkncliepkhaaaDoorRows.lean that lists a variable, with what it lists TIED to the program's text (the seventh form; the later family's looks); each row that meets fmt, with fmt's text TOLD by the authors' own Lean function (tested against real Go, not proved from fmt's source: count such statements apart). THE CARD IS WHAT COUNTS. Prove the row's statement (the work); the ties are given (YtpbkncliepkhaaaDoorTie.lean); close each card by the builder's one call (the guide's Derived/Test/ToyasCard.lean, 'card_holds'). Laid BY PROGRAM, IN A SANDBOX (cutbox-door.mjs). By AI agents, Wed Nov 11 2026. No macro, syntax, notation, axiom, sorry.
-/
import Derived.Test.YtpbkncliepkhaaaDoorRows
import GoSem.ClaimSeven
namespace Go.Proofs.YtpbkncliepkhaaaDoor
namespace Rows

/-- THE TIED CARD OF 'laws.FnFinished'. -/
def fnFinishedCard : Claim7 := { stood := { row := fnFinishedRow, standIns := [], harness := (true, "6f1763390dd59a95a79f865d4e57d34c48554de3fddd69af7a4af933809f19f2"), looks := true }, kinds := [], alts := [], laidByText := true, laidKinds := [.data, .data], laidTests := true, laidLooks := .later }
def FnFinishedCardSaid : Prop := Claim7.holds Tryd.pinned (.plain (OpenSpec.ofChange fnFinishedSpec)) fnFinishedCard

/-- THE TIED CARD OF 'laws.FnExactTranscriptOf'. -/
def fnExactTranscriptOfCard : Claim7 := { stood := { row := fnExactTranscriptOfRow, standIns := [], harness := (true, "6f1763390dd59a95a79f865d4e57d34c48554de3fddd69af7a4af933809f19f2"), looks := true }, kinds := [], alts := [], laidByText := true, laidKinds := [.data, .data], laidTests := true, laidLooks := .later }
def FnExactTranscriptOfCardSaid : Prop := Claim7.holds Tryd.pinned (.plain (OpenSpec.ofChange fnExactTranscriptOfSpec)) fnExactTranscriptOfCard

/-- THE SECOND FORM's CARD OF 'laws.FnFinished'. -/
def fnFinishedUptoCard : Claim7 := { stood := { row := fnFinishedUptoRow, standIns := [], harness := (true, "6f1763390dd59a95a79f865d4e57d34c48554de3fddd69af7a4af933809f19f2"), looks := true }, kinds := [], alts := [], laidByText := true, laidKinds := [.data, .data], laidTests := true, laidLooks := .later }
def FnFinishedUptoCardSaid : Prop := Claim7.holds Tryd.pinned (.plain (OpenSpec.upto fnFinishedSpec)) fnFinishedUptoCard

/-- THE SECOND FORM's CARD OF 'laws.FnExactTranscriptOf'. -/
def fnExactTranscriptOfUptoCard : Claim7 := { stood := { row := fnExactTranscriptOfUptoRow, standIns := [], harness := (true, "6f1763390dd59a95a79f865d4e57d34c48554de3fddd69af7a4af933809f19f2"), looks := true }, kinds := [], alts := [], laidByText := true, laidKinds := [.data, .data], laidTests := true, laidLooks := .later }
def FnExactTranscriptOfUptoCardSaid : Prop := Claim7.holds Tryd.pinned (.plain (OpenSpec.upto fnExactTranscriptOfSpec)) fnExactTranscriptOfUptoCard
end Rows
end Go.Proofs.YtpbkncliepkhaaaDoor
