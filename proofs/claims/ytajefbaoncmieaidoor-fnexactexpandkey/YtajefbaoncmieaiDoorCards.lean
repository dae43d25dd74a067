/-
  DERIVED. GIVEN WITH THE SEED: THE CARDS: each row of YtajefbaoncmieaiDoorRows.lean that lists a variable, with what it lists TIED to the program's text (the seventh form; the later family's looks); each row that meets fmt, with fmt's text TOLD by the authors' own Lean function (tested against real Go, not proved from fmt's source: count such statements apart). THE CARD IS WHAT COUNTS. Prove the row's statement (the work); the ties are given (YtajefbaoncmieaiDoorTie.lean); close each card by the builder's one call (the guide's Derived/Test/ToyasCard.lean, 'card_holds'). Laid BY PROGRAM, IN A SANDBOX (cutbox-door.mjs). By AI agents, Wed Nov 11 2026. No macro, syntax, notation, axiom, sorry.
-/
import Derived.Test.YtajefbaoncmieaiDoorRows
import GoSem.ClaimSeven
namespace Go.Proofs.YtajefbaoncmieaiDoor
namespace Rows

/-- THE TIED CARD OF 'laws.FnExactExtractKey'. -/
def fnExactExtractKeyCard : Claim7 := { stood := { row := fnExactExtractKeyRow, standIns := [], harness := (true, "03ab1d5f319c55bba1ea36a9ff0c203e3eb950940449c296cd74c0d25dbd94fb"), looks := false }, kinds := [], alts := [], laidByText := true, laidKinds := [.data, .data], laidTests := true, laidLooks := .later }
def FnExactExtractKeyCardSaid : Prop := Claim7.holds Tryd.pinned (.plain (OpenSpec.ofChange fnExactExtractKeySpec)) fnExactExtractKeyCard

/-- THE TIED CARD OF 'laws.FnExactExpandKey'. -/
def fnExactExpandKeyCard : Claim7 := { stood := { row := fnExactExpandKeyRow, standIns := [], harness := (true, "03ab1d5f319c55bba1ea36a9ff0c203e3eb950940449c296cd74c0d25dbd94fb"), looks := false }, kinds := [], alts := [], laidByText := true, laidKinds := [.data, .data], laidTests := true, laidLooks := .later }
def FnExactExpandKeyCardSaid : Prop := Claim7.holds Tryd.pinned (.plain (OpenSpec.ofChange fnExactExpandKeySpec)) fnExactExpandKeyCard

/-- THE TIED CARD OF 'laws.FnExactExpandLabel'. -/
def fnExactExpandLabelCard : Claim7 := { stood := { row := fnExactExpandLabelRow, standIns := [], harness := (true, "03ab1d5f319c55bba1ea36a9ff0c203e3eb950940449c296cd74c0d25dbd94fb"), looks := false }, kinds := [], alts := [], laidByText := true, laidKinds := [.data, .data], laidTests := true, laidLooks := .later }
def FnExactExpandLabelCardSaid : Prop := Claim7.holds Tryd.pinned (.plain (OpenSpec.ofChange fnExactExpandLabelSpec)) fnExactExpandLabelCard

/-- THE TIED CARD OF 'laws.FnExactDeriveKey'. -/
def fnExactDeriveKeyCard : Claim7 := { stood := { row := fnExactDeriveKeyRow, standIns := [], harness := (true, "03ab1d5f319c55bba1ea36a9ff0c203e3eb950940449c296cd74c0d25dbd94fb"), looks := false }, kinds := [], alts := [], laidByText := true, laidKinds := [.data, .data], laidTests := true, laidLooks := .later }
def FnExactDeriveKeyCardSaid : Prop := Claim7.holds Tryd.pinned (.plain (OpenSpec.ofChange fnExactDeriveKeySpec)) fnExactDeriveKeyCard

/-- THE SECOND FORM's CARD OF 'laws.FnExactExtractKey'. -/
def fnExactExtractKeyUptoCard : Claim7 := { stood := { row := fnExactExtractKeyUptoRow, standIns := [], harness := (true, "03ab1d5f319c55bba1ea36a9ff0c203e3eb950940449c296cd74c0d25dbd94fb"), looks := false }, kinds := [], alts := [], laidByText := true, laidKinds := [.data, .data], laidTests := true, laidLooks := .later }
def FnExactExtractKeyUptoCardSaid : Prop := Claim7.holds Tryd.pinned (.plain (OpenSpec.upto fnExactExtractKeySpec)) fnExactExtractKeyUptoCard

/-- THE SECOND FORM's CARD OF 'laws.FnExactExpandKey'. -/
def fnExactExpandKeyUptoCard : Claim7 := { stood := { row := fnExactExpandKeyUptoRow, standIns := [], harness := (true, "03ab1d5f319c55bba1ea36a9ff0c203e3eb950940449c296cd74c0d25dbd94fb"), looks := false }, kinds := [], alts := [], laidByText := true, laidKinds := [.data, .data], laidTests := true, laidLooks := .later }
def FnExactExpandKeyUptoCardSaid : Prop := Claim7.holds Tryd.pinned (.plain (OpenSpec.upto fnExactExpandKeySpec)) fnExactExpandKeyUptoCard

/-- THE SECOND FORM's CARD OF 'laws.FnExactExpandLabel'. -/
def fnExactExpandLabelUptoCard : Claim7 := { stood := { row := fnExactExpandLabelUptoRow, standIns := [], harness := (true, "03ab1d5f319c55bba1ea36a9ff0c203e3eb950940449c296cd74c0d25dbd94fb"), looks := false }, kinds := [], alts := [], laidByText := true, laidKinds := [.data, .data], laidTests := true, laidLooks := .later }
def FnExactExpandLabelUptoCardSaid : Prop := Claim7.holds Tryd.pinned (.plain (OpenSpec.upto fnExactExpandLabelSpec)) fnExactExpandLabelUptoCard

/-- THE SECOND FORM's CARD OF 'laws.FnExactDeriveKey'. -/
def fnExactDeriveKeyUptoCard : Claim7 := { stood := { row := fnExactDeriveKeyUptoRow, standIns := [], harness := (true, "03ab1d5f319c55bba1ea36a9ff0c203e3eb950940449c296cd74c0d25dbd94fb"), looks := false }, kinds := [], alts := [], laidByText := true, laidKinds := [.data, .data], laidTests := true, laidLooks := .later }
def FnExactDeriveKeyUptoCardSaid : Prop := Claim7.holds Tryd.pinned (.plain (OpenSpec.upto fnExactDeriveKeySpec)) fnExactDeriveKeyUptoCard
end Rows
end Go.Proofs.YtajefbaoncmieaiDoor
