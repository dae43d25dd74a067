/-
  DERIVED. GIVEN WITH THE SEED: THE CARDS: each row of YtdbpnibcblelbaaGreatDoorRows.lean that lists a variable, with what it lists TIED to the program's text (the seventh form; the later family's looks); each row that meets fmt, with fmt's text TOLD by the authors' own Lean function (tested against real Go, not proved from fmt's source: count such statements apart). THE CARD IS WHAT COUNTS. Prove the row's statement (the work); the ties are given (YtdbpnibcblelbaaGreatDoorTie.lean); close each card by the builder's one call (the guide's Derived/Test/ToyasCard.lean, 'card_holds'). Laid BY PROGRAM, IN A SANDBOX (cutbox-door.mjs). By AI agents, Wed Nov 11 2026. No macro, syntax, notation, axiom, sorry.
-/
import Derived.Test.YtdbpnibcblelbaaGreatDoorRows
import GoSem.ClaimSeven
namespace Go.Proofs.YtdbpnibcblelbaaGreatDoor
namespace Rows

/-- THE TIED CARD OF 'laws.FnKeeps'. -/
def fnKeepsCard : Claim7 := { stood := { row := fnKeepsRow, standIns := [], harness := (true, "2ad1f006dbb21e2a14752195589a09f61ed213197fc3d7adaf4cdc06f878a60d"), looks := true }, kinds := [], alts := [], laidByText := true, laidKinds := [.handle, .data, .data], laidTests := true, laidLooks := .later }
def FnKeepsCardSaid : Prop := Claim7.holds Tryz.pinned (.plain (OpenSpec.ofChange fnKeepsSpec)) fnKeepsCard

/-- THE TIED CARD OF 'laws.FnAuths'. -/
def fnAuthsCard : Claim7 := { stood := { row := fnAuthsRow, standIns := [], harness := (true, "2ad1f006dbb21e2a14752195589a09f61ed213197fc3d7adaf4cdc06f878a60d"), looks := true }, kinds := [], alts := [], laidByText := true, laidKinds := [.data, .data], laidTests := true, laidLooks := .later }
def FnAuthsCardSaid : Prop := Claim7.holds Tryz.pinned (.plain (OpenSpec.ofChange fnAuthsSpec)) fnAuthsCard

/-- THE TIED CARD OF 'laws.FnBelieves'. -/
def fnBelievesCard : Claim7 := { stood := { row := fnBelievesRow, standIns := [], harness := (true, "2ad1f006dbb21e2a14752195589a09f61ed213197fc3d7adaf4cdc06f878a60d"), looks := true }, kinds := [], alts := [], laidByText := true, laidKinds := [.data, .data], laidTests := true, laidLooks := .later }
def FnBelievesCardSaid : Prop := Claim7.holds Tryz.pinned (.plain (OpenSpec.ofChange fnBelievesSpec)) fnBelievesCard

/-- THE TIED CARD OF 'laws.FnExactMakeAuth'. -/
def fnExactMakeAuthCard : Claim7 := { stood := { row := fnExactMakeAuthRow, standIns := [], harness := (true, "2ad1f006dbb21e2a14752195589a09f61ed213197fc3d7adaf4cdc06f878a60d"), looks := true }, kinds := [], alts := [], laidByText := true, laidKinds := [.data, .data], laidTests := true, laidLooks := .later }
def FnExactMakeAuthCardSaid : Prop := Claim7.holds Tryz.pinned (.plain (OpenSpec.ofChange fnExactMakeAuthSpec)) fnExactMakeAuthCard

/-- THE SECOND FORM's CARD OF 'laws.FnKeeps'. -/
def fnKeepsUptoCard : Claim7 := { stood := { row := fnKeepsUptoRow, standIns := [], harness := (true, "2ad1f006dbb21e2a14752195589a09f61ed213197fc3d7adaf4cdc06f878a60d"), looks := true }, kinds := [], alts := [], laidByText := true, laidKinds := [.handle, .data, .data], laidTests := true, laidLooks := .later }
def FnKeepsUptoCardSaid : Prop := Claim7.holds Tryz.pinned (.plain (OpenSpec.upto fnKeepsSpec)) fnKeepsUptoCard

/-- THE SECOND FORM's CARD OF 'laws.FnAuths'. -/
def fnAuthsUptoCard : Claim7 := { stood := { row := fnAuthsUptoRow, standIns := [], harness := (true, "2ad1f006dbb21e2a14752195589a09f61ed213197fc3d7adaf4cdc06f878a60d"), looks := true }, kinds := [], alts := [], laidByText := true, laidKinds := [.data, .data], laidTests := true, laidLooks := .later }
def FnAuthsUptoCardSaid : Prop := Claim7.holds Tryz.pinned (.plain (OpenSpec.upto fnAuthsSpec)) fnAuthsUptoCard

/-- THE SECOND FORM's CARD OF 'laws.FnBelieves'. -/
def fnBelievesUptoCard : Claim7 := { stood := { row := fnBelievesUptoRow, standIns := [], harness := (true, "2ad1f006dbb21e2a14752195589a09f61ed213197fc3d7adaf4cdc06f878a60d"), looks := true }, kinds := [], alts := [], laidByText := true, laidKinds := [.data, .data], laidTests := true, laidLooks := .later }
def FnBelievesUptoCardSaid : Prop := Claim7.holds Tryz.pinned (.plain (OpenSpec.upto fnBelievesSpec)) fnBelievesUptoCard

/-- THE SECOND FORM's CARD OF 'laws.FnExactMakeAuth'. -/
def fnExactMakeAuthUptoCard : Claim7 := { stood := { row := fnExactMakeAuthUptoRow, standIns := [], harness := (true, "2ad1f006dbb21e2a14752195589a09f61ed213197fc3d7adaf4cdc06f878a60d"), looks := true }, kinds := [], alts := [], laidByText := true, laidKinds := [.data, .data], laidTests := true, laidLooks := .later }
def FnExactMakeAuthUptoCardSaid : Prop := Claim7.holds Tryz.pinned (.plain (OpenSpec.upto fnExactMakeAuthSpec)) fnExactMakeAuthUptoCard
end Rows
end Go.Proofs.YtdbpnibcblelbaaGreatDoor
