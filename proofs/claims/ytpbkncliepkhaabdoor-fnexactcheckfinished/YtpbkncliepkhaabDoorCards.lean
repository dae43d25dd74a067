/-
  DERIVED. GIVEN WITH THE SEED: THE CARDS: each row of YtpbkncliepkhaabDoorRows.lean that lists a variable, with what it lists TIED to the program's text (the seventh form; the later family's looks); each row that meets fmt, with fmt's text TOLD by the authors' own Lean function (tested against real Go, not proved from fmt's source: count such statements apart). THE CARD IS WHAT COUNTS. Prove the row's statement (the work); the ties are given (YtpbkncliepkhaabDoorTie.lean); close each card by the builder's one call (the guide's Derived/Test/ToyasCard.lean, 'card_holds'). Laid BY PROGRAM, IN A SANDBOX (cutbox-door.mjs). By AI agents, Wed Nov 11 2026. No macro, syntax, notation, axiom, sorry.
-/
import Derived.Test.YtpbkncliepkhaabDoorRows
import GoSem.ClaimSeven
namespace Go.Proofs.YtpbkncliepkhaabDoor
namespace Rows

/-- THE TIED CARD OF 'laws.FnExactFinishedMsg'. -/
def fnExactFinishedMsgCard : Claim7 := { stood := { row := fnExactFinishedMsgRow, standIns := [], harness := (true, "0a9d793b31c266eeca4d6be7a6ee626269ec24542860dc846bcdd022d48674d2"), looks := true }, kinds := [], alts := [], laidByText := true, laidKinds := [.data, .data], laidTests := true, laidLooks := .later }
def FnExactFinishedMsgCardSaid : Prop := Claim7.holds Tryd.pinned (.plain (OpenSpec.ofChange fnExactFinishedMsgSpec)) fnExactFinishedMsgCard

/-- THE TIED CARD OF 'laws.FnExactCheckFinished'. -/
def fnExactCheckFinishedCard : Claim7 := { stood := { row := fnExactCheckFinishedRow, standIns := [], harness := (true, "0a9d793b31c266eeca4d6be7a6ee626269ec24542860dc846bcdd022d48674d2"), looks := true }, kinds := [], alts := [], laidByText := true, laidKinds := [.data, .data], laidTests := true, laidLooks := .later }
def FnExactCheckFinishedCardSaid : Prop := Claim7.holds Tryd.pinned (.plain (OpenSpec.ofChange fnExactCheckFinishedSpec)) fnExactCheckFinishedCard

/-- THE SECOND FORM's CARD OF 'laws.FnExactFinishedMsg'. -/
def fnExactFinishedMsgUptoCard : Claim7 := { stood := { row := fnExactFinishedMsgUptoRow, standIns := [], harness := (true, "0a9d793b31c266eeca4d6be7a6ee626269ec24542860dc846bcdd022d48674d2"), looks := true }, kinds := [], alts := [], laidByText := true, laidKinds := [.data, .data], laidTests := true, laidLooks := .later }
def FnExactFinishedMsgUptoCardSaid : Prop := Claim7.holds Tryd.pinned (.plain (OpenSpec.upto fnExactFinishedMsgSpec)) fnExactFinishedMsgUptoCard

/-- THE SECOND FORM's CARD OF 'laws.FnExactCheckFinished'. -/
def fnExactCheckFinishedUptoCard : Claim7 := { stood := { row := fnExactCheckFinishedUptoRow, standIns := [], harness := (true, "0a9d793b31c266eeca4d6be7a6ee626269ec24542860dc846bcdd022d48674d2"), looks := true }, kinds := [], alts := [], laidByText := true, laidKinds := [.data, .data], laidTests := true, laidLooks := .later }
def FnExactCheckFinishedUptoCardSaid : Prop := Claim7.holds Tryd.pinned (.plain (OpenSpec.upto fnExactCheckFinishedSpec)) fnExactCheckFinishedUptoCard
end Rows
end Go.Proofs.YtpbkncliepkhaabDoor
