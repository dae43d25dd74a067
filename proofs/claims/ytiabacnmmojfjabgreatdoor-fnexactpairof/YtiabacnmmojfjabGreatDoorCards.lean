/-
  DERIVED. GIVEN WITH THE SEED: THE CARDS: each row of YtiabacnmmojfjabGreatDoorRows.lean that lists a variable, with what it lists TIED to the program's text (the seventh form; the later family's looks); each row that meets fmt, with fmt's text TOLD by the authors' own Lean function (tested against real Go, not proved from fmt's source: count such statements apart). THE CARD IS WHAT COUNTS. Prove the row's statement (the work); the ties are given (YtiabacnmmojfjabGreatDoorTie.lean); close each card by the builder's one call (the guide's Derived/Test/ToyasCard.lean, 'card_holds'). Laid BY PROGRAM, IN A SANDBOX (cutbox-door.mjs). By AI agents, Wed Nov 11 2026. No macro, syntax, notation, axiom, sorry.
-/
import Derived.Test.YtiabacnmmojfjabGreatDoorRows
import GoSem.ClaimSeven
namespace Go.Proofs.YtiabacnmmojfjabGreatDoor
namespace Rows

/-- THE TIED CARD OF 'laws.FnExactHearServer'. -/
def fnExactHearServerCard : Claim7 := { stood := { row := fnExactHearServerRow, standIns := [], harness := (true, "446e668a165e1b747903b4e97632eb0ed92f627082fdaf5b531e09bc11aa13e5"), looks := true }, kinds := [], alts := [], laidByText := true, laidKinds := [.data, .data], laidTests := true, laidLooks := .later }
def FnExactHearServerCardSaid : Prop := Claim7.holds Tryz.pinned (.plain (OpenSpec.ofChange fnExactHearServerSpec)) fnExactHearServerCard

/-- THE TIED CARD OF 'laws.FnExactHearFinish'. -/
def fnExactHearFinishCard : Claim7 := { stood := { row := fnExactHearFinishRow, standIns := [], harness := (true, "446e668a165e1b747903b4e97632eb0ed92f627082fdaf5b531e09bc11aa13e5"), looks := true }, kinds := [], alts := [], laidByText := true, laidKinds := [.data, .data], laidTests := true, laidLooks := .later }
def FnExactHearFinishCardSaid : Prop := Claim7.holds Tryz.pinned (.plain (OpenSpec.ofChange fnExactHearFinishSpec)) fnExactHearFinishCard

/-- THE TIED CARD OF 'laws.FnExactPairOf'. -/
def fnExactPairOfCard : Claim7 := { stood := { row := fnExactPairOfRow, standIns := [], harness := (true, "446e668a165e1b747903b4e97632eb0ed92f627082fdaf5b531e09bc11aa13e5"), looks := true }, kinds := [], alts := [], laidByText := true, laidKinds := [.data, .data], laidTests := true, laidLooks := .later }
def FnExactPairOfCardSaid : Prop := Claim7.holds Tryz.pinned (.plain (OpenSpec.ofChange fnExactPairOfSpec)) fnExactPairOfCard

/-- THE SECOND FORM's CARD OF 'laws.FnExactHearServer'. -/
def fnExactHearServerUptoCard : Claim7 := { stood := { row := fnExactHearServerUptoRow, standIns := [], harness := (true, "446e668a165e1b747903b4e97632eb0ed92f627082fdaf5b531e09bc11aa13e5"), looks := true }, kinds := [], alts := [], laidByText := true, laidKinds := [.data, .data], laidTests := true, laidLooks := .later }
def FnExactHearServerUptoCardSaid : Prop := Claim7.holds Tryz.pinned (.plain (OpenSpec.upto fnExactHearServerSpec)) fnExactHearServerUptoCard

/-- THE SECOND FORM's CARD OF 'laws.FnExactHearFinish'. -/
def fnExactHearFinishUptoCard : Claim7 := { stood := { row := fnExactHearFinishUptoRow, standIns := [], harness := (true, "446e668a165e1b747903b4e97632eb0ed92f627082fdaf5b531e09bc11aa13e5"), looks := true }, kinds := [], alts := [], laidByText := true, laidKinds := [.data, .data], laidTests := true, laidLooks := .later }
def FnExactHearFinishUptoCardSaid : Prop := Claim7.holds Tryz.pinned (.plain (OpenSpec.upto fnExactHearFinishSpec)) fnExactHearFinishUptoCard

/-- THE SECOND FORM's CARD OF 'laws.FnExactPairOf'. -/
def fnExactPairOfUptoCard : Claim7 := { stood := { row := fnExactPairOfUptoRow, standIns := [], harness := (true, "446e668a165e1b747903b4e97632eb0ed92f627082fdaf5b531e09bc11aa13e5"), looks := true }, kinds := [], alts := [], laidByText := true, laidKinds := [.data, .data], laidTests := true, laidLooks := .later }
def FnExactPairOfUptoCardSaid : Prop := Claim7.holds Tryz.pinned (.plain (OpenSpec.upto fnExactPairOfSpec)) fnExactPairOfUptoCard
end Rows
end Go.Proofs.YtiabacnmmojfjabGreatDoor
