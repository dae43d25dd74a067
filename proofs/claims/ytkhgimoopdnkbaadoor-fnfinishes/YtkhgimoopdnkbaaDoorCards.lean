/-
  DERIVED. GIVEN WITH THE SEED: THE CARDS: each row of YtkhgimoopdnkbaaDoorRows.lean that lists a variable, with what it lists TIED to the program's text (the seventh form; the later family's looks); each row that meets fmt, with fmt's text TOLD by the authors' own Lean function (tested against real Go, not proved from fmt's source: count such statements apart). THE CARD IS WHAT COUNTS. Prove the row's statement (the work); the ties are given (YtkhgimoopdnkbaaDoorTie.lean); close each card by the builder's one call (the guide's Derived/Test/ToyasCard.lean, 'card_holds'). Laid BY PROGRAM, IN A SANDBOX (cutbox-door.mjs). By AI agents, Wed Nov 11 2026. No macro, syntax, notation, axiom, sorry.
-/
import Derived.Test.YtkhgimoopdnkbaaDoorRows
import GoSem.ClaimSeven
namespace Go.Proofs.YtkhgimoopdnkbaaDoor
namespace Rows

/-- THE TIED CARD OF 'laws.FnExpands'. -/
def fnExpandsCard : Claim7 := { stood := { row := fnExpandsRow, standIns := [], harness := (true, "fa1d398aa8cb5af9e89994a1409bf89a9b6e5b88e01cb2a77f491b38b12ddaa7"), looks := false }, kinds := [], alts := [], laidByText := true, laidKinds := [.data, .data], laidTests := true, laidLooks := .later }
def FnExpandsCardSaid : Prop := Claim7.holds Tryd.pinned (.plain (OpenSpec.ofChange fnExpandsSpec)) fnExpandsCard

/-- THE TIED CARD OF 'laws.FnFinishes'. -/
def fnFinishesCard : Claim7 := { stood := { row := fnFinishesRow, standIns := [], harness := (true, "fa1d398aa8cb5af9e89994a1409bf89a9b6e5b88e01cb2a77f491b38b12ddaa7"), looks := false }, kinds := [], alts := [], laidByText := true, laidKinds := [.data, .data], laidTests := true, laidLooks := .later }
def FnFinishesCardSaid : Prop := Claim7.holds Tryd.pinned (.plain (OpenSpec.ofChange fnFinishesSpec)) fnFinishesCard

/-- THE TIED CARD OF 'laws.FnExactExpandLabel'. -/
def fnExactExpandLabelCard : Claim7 := { stood := { row := fnExactExpandLabelRow, standIns := [], harness := (true, "fa1d398aa8cb5af9e89994a1409bf89a9b6e5b88e01cb2a77f491b38b12ddaa7"), looks := false }, kinds := [], alts := [], laidByText := true, laidKinds := [.data, .data], laidTests := true, laidLooks := .later }
def FnExactExpandLabelCardSaid : Prop := Claim7.holds Tryd.pinned (.plain (OpenSpec.ofChange fnExactExpandLabelSpec)) fnExactExpandLabelCard

/-- THE TIED CARD OF 'laws.FnExactDeriveKey'. -/
def fnExactDeriveKeyCard : Claim7 := { stood := { row := fnExactDeriveKeyRow, standIns := [], harness := (true, "fa1d398aa8cb5af9e89994a1409bf89a9b6e5b88e01cb2a77f491b38b12ddaa7"), looks := false }, kinds := [], alts := [], laidByText := true, laidKinds := [.data, .data], laidTests := true, laidLooks := .later }
def FnExactDeriveKeyCardSaid : Prop := Claim7.holds Tryd.pinned (.plain (OpenSpec.ofChange fnExactDeriveKeySpec)) fnExactDeriveKeyCard

/-- THE TIED CARD OF 'laws.FnExactFinishOf'. -/
def fnExactFinishOfCard : Claim7 := { stood := { row := fnExactFinishOfRow, standIns := [], harness := (true, "fa1d398aa8cb5af9e89994a1409bf89a9b6e5b88e01cb2a77f491b38b12ddaa7"), looks := false }, kinds := [], alts := [], laidByText := true, laidKinds := [.data, .data], laidTests := true, laidLooks := .later }
def FnExactFinishOfCardSaid : Prop := Claim7.holds Tryd.pinned (.plain (OpenSpec.ofChange fnExactFinishOfSpec)) fnExactFinishOfCard

/-- THE SECOND FORM's CARD OF 'laws.FnExpands'. -/
def fnExpandsUptoCard : Claim7 := { stood := { row := fnExpandsUptoRow, standIns := [], harness := (true, "fa1d398aa8cb5af9e89994a1409bf89a9b6e5b88e01cb2a77f491b38b12ddaa7"), looks := false }, kinds := [], alts := [], laidByText := true, laidKinds := [.data, .data], laidTests := true, laidLooks := .later }
def FnExpandsUptoCardSaid : Prop := Claim7.holds Tryd.pinned (.plain (OpenSpec.upto fnExpandsSpec)) fnExpandsUptoCard

/-- THE SECOND FORM's CARD OF 'laws.FnFinishes'. -/
def fnFinishesUptoCard : Claim7 := { stood := { row := fnFinishesUptoRow, standIns := [], harness := (true, "fa1d398aa8cb5af9e89994a1409bf89a9b6e5b88e01cb2a77f491b38b12ddaa7"), looks := false }, kinds := [], alts := [], laidByText := true, laidKinds := [.data, .data], laidTests := true, laidLooks := .later }
def FnFinishesUptoCardSaid : Prop := Claim7.holds Tryd.pinned (.plain (OpenSpec.upto fnFinishesSpec)) fnFinishesUptoCard

/-- THE SECOND FORM's CARD OF 'laws.FnExactExpandLabel'. -/
def fnExactExpandLabelUptoCard : Claim7 := { stood := { row := fnExactExpandLabelUptoRow, standIns := [], harness := (true, "fa1d398aa8cb5af9e89994a1409bf89a9b6e5b88e01cb2a77f491b38b12ddaa7"), looks := false }, kinds := [], alts := [], laidByText := true, laidKinds := [.data, .data], laidTests := true, laidLooks := .later }
def FnExactExpandLabelUptoCardSaid : Prop := Claim7.holds Tryd.pinned (.plain (OpenSpec.upto fnExactExpandLabelSpec)) fnExactExpandLabelUptoCard

/-- THE SECOND FORM's CARD OF 'laws.FnExactDeriveKey'. -/
def fnExactDeriveKeyUptoCard : Claim7 := { stood := { row := fnExactDeriveKeyUptoRow, standIns := [], harness := (true, "fa1d398aa8cb5af9e89994a1409bf89a9b6e5b88e01cb2a77f491b38b12ddaa7"), looks := false }, kinds := [], alts := [], laidByText := true, laidKinds := [.data, .data], laidTests := true, laidLooks := .later }
def FnExactDeriveKeyUptoCardSaid : Prop := Claim7.holds Tryd.pinned (.plain (OpenSpec.upto fnExactDeriveKeySpec)) fnExactDeriveKeyUptoCard

/-- THE SECOND FORM's CARD OF 'laws.FnExactFinishOf'. -/
def fnExactFinishOfUptoCard : Claim7 := { stood := { row := fnExactFinishOfUptoRow, standIns := [], harness := (true, "fa1d398aa8cb5af9e89994a1409bf89a9b6e5b88e01cb2a77f491b38b12ddaa7"), looks := false }, kinds := [], alts := [], laidByText := true, laidKinds := [.data, .data], laidTests := true, laidLooks := .later }
def FnExactFinishOfUptoCardSaid : Prop := Claim7.holds Tryd.pinned (.plain (OpenSpec.upto fnExactFinishOfSpec)) fnExactFinishOfUptoCard
end Rows
end Go.Proofs.YtkhgimoopdnkbaaDoor
