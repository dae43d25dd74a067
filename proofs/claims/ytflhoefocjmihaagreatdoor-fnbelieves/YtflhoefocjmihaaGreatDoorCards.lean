/-
  DERIVED. GIVEN WITH THE SEED: THE CARDS: each row of YtflhoefocjmihaaGreatDoorRows.lean that lists a variable, with what it lists TIED to the program's text (the seventh form; the later family's looks); each row that meets fmt, with fmt's text TOLD by the authors' own Lean function (tested against real Go, not proved from fmt's source: count such statements apart). THE CARD IS WHAT COUNTS. Prove the row's statement (the work); the ties are given (YtflhoefocjmihaaGreatDoorTie.lean); close each card by the builder's one call (the guide's Derived/Test/ToyasCard.lean, 'card_holds'). Laid BY PROGRAM, IN A SANDBOX (cutbox-door.mjs). By AI agents, Wed Nov 11 2026. No macro, syntax, notation, axiom, sorry.
-/
import Derived.Test.YtflhoefocjmihaaGreatDoorRows
import GoSem.ClaimSeven
namespace Go.Proofs.YtflhoefocjmihaaGreatDoor
namespace Rows

/-- THE TIED CARD OF 'laws.FnContexts'. -/
def fnContextsCard : Claim7 := { stood := { row := fnContextsRow, standIns := [], harness := (true, "ecad870a9b1d334d31084c5d6088ff9bd64b626914217eff15c173fc80997471"), looks := true }, kinds := [], alts := [], laidByText := true, laidKinds := [.data, .data], laidTests := true, laidLooks := .later }
def FnContextsCardSaid : Prop := Claim7.holds Tryz.pinned (.plain (OpenSpec.ofChange fnContextsSpec)) fnContextsCard

/-- THE TIED CARD OF 'laws.FnAuths'. -/
def fnAuthsCard : Claim7 := { stood := { row := fnAuthsRow, standIns := [], harness := (true, "ecad870a9b1d334d31084c5d6088ff9bd64b626914217eff15c173fc80997471"), looks := true }, kinds := [], alts := [], laidByText := true, laidKinds := [.data, .data], laidTests := true, laidLooks := .later }
def FnAuthsCardSaid : Prop := Claim7.holds Tryz.pinned (.plain (OpenSpec.ofChange fnAuthsSpec)) fnAuthsCard

/-- THE TIED CARD OF 'laws.FnBelieves'. -/
def fnBelievesCard : Claim7 := { stood := { row := fnBelievesRow, standIns := [], harness := (true, "ecad870a9b1d334d31084c5d6088ff9bd64b626914217eff15c173fc80997471"), looks := true }, kinds := [], alts := [], laidByText := true, laidKinds := [.data, .data], laidTests := true, laidLooks := .later }
def FnBelievesCardSaid : Prop := Claim7.holds Tryz.pinned (.plain (OpenSpec.ofChange fnBelievesSpec)) fnBelievesCard

/-- THE SECOND FORM's CARD OF 'laws.FnContexts'. -/
def fnContextsUptoCard : Claim7 := { stood := { row := fnContextsUptoRow, standIns := [], harness := (true, "ecad870a9b1d334d31084c5d6088ff9bd64b626914217eff15c173fc80997471"), looks := true }, kinds := [], alts := [], laidByText := true, laidKinds := [.data, .data], laidTests := true, laidLooks := .later }
def FnContextsUptoCardSaid : Prop := Claim7.holds Tryz.pinned (.plain (OpenSpec.upto fnContextsSpec)) fnContextsUptoCard

/-- THE SECOND FORM's CARD OF 'laws.FnAuths'. -/
def fnAuthsUptoCard : Claim7 := { stood := { row := fnAuthsUptoRow, standIns := [], harness := (true, "ecad870a9b1d334d31084c5d6088ff9bd64b626914217eff15c173fc80997471"), looks := true }, kinds := [], alts := [], laidByText := true, laidKinds := [.data, .data], laidTests := true, laidLooks := .later }
def FnAuthsUptoCardSaid : Prop := Claim7.holds Tryz.pinned (.plain (OpenSpec.upto fnAuthsSpec)) fnAuthsUptoCard

/-- THE SECOND FORM's CARD OF 'laws.FnBelieves'. -/
def fnBelievesUptoCard : Claim7 := { stood := { row := fnBelievesUptoRow, standIns := [], harness := (true, "ecad870a9b1d334d31084c5d6088ff9bd64b626914217eff15c173fc80997471"), looks := true }, kinds := [], alts := [], laidByText := true, laidKinds := [.data, .data], laidTests := true, laidLooks := .later }
def FnBelievesUptoCardSaid : Prop := Claim7.holds Tryz.pinned (.plain (OpenSpec.upto fnBelievesSpec)) fnBelievesUptoCard
end Rows
end Go.Proofs.YtflhoefocjmihaaGreatDoor
