/-
  DERIVED. GIVEN WITH THE SEED: THE CARDS: each row of YtajefbaoncmieahDoorRows.lean that lists a variable, with what it lists TIED to the program's text (the seventh form; the later family's looks); each row that meets fmt, with fmt's text TOLD by the authors' own Lean function (tested against real Go, not proved from fmt's source: count such statements apart). THE CARD IS WHAT COUNTS. Prove the row's statement (the work); the ties are given (YtajefbaoncmieahDoorTie.lean); close each card by the builder's one call (the guide's Derived/Test/ToyasCard.lean, 'card_holds'). Laid BY PROGRAM, IN A SANDBOX (cutbox-door.mjs). By AI agents, Wed Nov 11 2026. No macro, syntax, notation, axiom, sorry.
-/
import Derived.Test.YtajefbaoncmieahDoorRows
import GoSem.ClaimSeven
namespace Go.Proofs.YtajefbaoncmieahDoor
namespace Rows

/-- THE TIED CARD OF 'laws.FnExactDigestOf'. -/
def fnExactDigestOfCard : Claim7 := { stood := { row := fnExactDigestOfRow, standIns := [], harness := (true, "103d4587bcc05d5ce8474fa389e61b3458856c41ce1ee6ada9ee728478e52b36"), looks := false }, kinds := [], alts := [], laidByText := true, laidKinds := [.data, .data], laidTests := true, laidLooks := .later }
def FnExactDigestOfCardSaid : Prop := Claim7.holds Tryd.pinned (.plain (OpenSpec.ofChange fnExactDigestOfSpec)) fnExactDigestOfCard

/-- THE TIED CARD OF 'laws.FnExactDigestText'. -/
def fnExactDigestTextCard : Claim7 := { stood := { row := fnExactDigestTextRow, standIns := [], harness := (true, "103d4587bcc05d5ce8474fa389e61b3458856c41ce1ee6ada9ee728478e52b36"), looks := false }, kinds := [], alts := [], laidByText := true, laidKinds := [.data, .data], laidTests := true, laidLooks := .later }
def FnExactDigestTextCardSaid : Prop := Claim7.holds Tryd.pinned (.plain (OpenSpec.ofChange fnExactDigestTextSpec)) fnExactDigestTextCard

/-- THE TIED CARD OF 'laws.FnExactMacOf'. -/
def fnExactMacOfCard : Claim7 := { stood := { row := fnExactMacOfRow, standIns := [], harness := (true, "103d4587bcc05d5ce8474fa389e61b3458856c41ce1ee6ada9ee728478e52b36"), looks := false }, kinds := [], alts := [], laidByText := true, laidKinds := [.data, .data], laidTests := true, laidLooks := .later }
def FnExactMacOfCardSaid : Prop := Claim7.holds Tryd.pinned (.plain (OpenSpec.ofChange fnExactMacOfSpec)) fnExactMacOfCard

/-- THE SECOND FORM's CARD OF 'laws.FnExactDigestOf'. -/
def fnExactDigestOfUptoCard : Claim7 := { stood := { row := fnExactDigestOfUptoRow, standIns := [], harness := (true, "103d4587bcc05d5ce8474fa389e61b3458856c41ce1ee6ada9ee728478e52b36"), looks := false }, kinds := [], alts := [], laidByText := true, laidKinds := [.data, .data], laidTests := true, laidLooks := .later }
def FnExactDigestOfUptoCardSaid : Prop := Claim7.holds Tryd.pinned (.plain (OpenSpec.upto fnExactDigestOfSpec)) fnExactDigestOfUptoCard

/-- THE SECOND FORM's CARD OF 'laws.FnExactDigestText'. -/
def fnExactDigestTextUptoCard : Claim7 := { stood := { row := fnExactDigestTextUptoRow, standIns := [], harness := (true, "103d4587bcc05d5ce8474fa389e61b3458856c41ce1ee6ada9ee728478e52b36"), looks := false }, kinds := [], alts := [], laidByText := true, laidKinds := [.data, .data], laidTests := true, laidLooks := .later }
def FnExactDigestTextUptoCardSaid : Prop := Claim7.holds Tryd.pinned (.plain (OpenSpec.upto fnExactDigestTextSpec)) fnExactDigestTextUptoCard

/-- THE SECOND FORM's CARD OF 'laws.FnExactMacOf'. -/
def fnExactMacOfUptoCard : Claim7 := { stood := { row := fnExactMacOfUptoRow, standIns := [], harness := (true, "103d4587bcc05d5ce8474fa389e61b3458856c41ce1ee6ada9ee728478e52b36"), looks := false }, kinds := [], alts := [], laidByText := true, laidKinds := [.data, .data], laidTests := true, laidLooks := .later }
def FnExactMacOfUptoCardSaid : Prop := Claim7.holds Tryd.pinned (.plain (OpenSpec.upto fnExactMacOfSpec)) fnExactMacOfUptoCard
end Rows
end Go.Proofs.YtajefbaoncmieahDoor
