/-
  DERIVED. GIVEN WITH THE SEED: THE CARDS: each row of YtbgiaoipdadanahDoorRows.lean that lists a variable, with what it lists TIED to the program's text (the seventh form; the later family's looks); each row that meets fmt, with fmt's text TOLD by the authors' own Lean function (tested against real Go, not proved from fmt's source: count such statements apart). THE CARD IS WHAT COUNTS. Prove the row's statement (the work); the ties are given (YtbgiaoipdadanahDoorTie.lean); close each card by the builder's one call (the guide's Derived/Test/ToyasCard.lean, 'card_holds'). Laid BY PROGRAM, IN A SANDBOX (cutbox-door.mjs). By AI agents, Wed Nov 11 2026. No macro, syntax, notation, axiom, sorry.
-/
import Derived.Test.YtbgiaoipdadanahDoorRows
import GoSem.ClaimSeven
namespace Go.Proofs.YtbgiaoipdadanahDoor
namespace Rows

/-- THE TIED CARD OF 'laws.FnExactDigestOf'. -/
def fnExactDigestOfCard : Claim7 := { stood := { row := fnExactDigestOfRow, standIns := [], harness := (true, "50e5749d76ae4633d66f6b279e9b43447f0c8df1d2653bb3703c0f3044dd2ca7"), looks := false }, kinds := [], alts := [], laidByText := true, laidKinds := [.data, .data], laidTests := true, laidLooks := .later }
def FnExactDigestOfCardSaid : Prop := Claim7.holds Tryd.pinned (.plain (OpenSpec.ofChange fnExactDigestOfSpec)) fnExactDigestOfCard

/-- THE TIED CARD OF 'laws.FnExactDigestText'. -/
def fnExactDigestTextCard : Claim7 := { stood := { row := fnExactDigestTextRow, standIns := [], harness := (true, "50e5749d76ae4633d66f6b279e9b43447f0c8df1d2653bb3703c0f3044dd2ca7"), looks := false }, kinds := [], alts := [], laidByText := true, laidKinds := [.data, .data], laidTests := true, laidLooks := .later }
def FnExactDigestTextCardSaid : Prop := Claim7.holds Tryd.pinned (.plain (OpenSpec.ofChange fnExactDigestTextSpec)) fnExactDigestTextCard

/-- THE SECOND FORM's CARD OF 'laws.FnExactDigestOf'. -/
def fnExactDigestOfUptoCard : Claim7 := { stood := { row := fnExactDigestOfUptoRow, standIns := [], harness := (true, "50e5749d76ae4633d66f6b279e9b43447f0c8df1d2653bb3703c0f3044dd2ca7"), looks := false }, kinds := [], alts := [], laidByText := true, laidKinds := [.data, .data], laidTests := true, laidLooks := .later }
def FnExactDigestOfUptoCardSaid : Prop := Claim7.holds Tryd.pinned (.plain (OpenSpec.upto fnExactDigestOfSpec)) fnExactDigestOfUptoCard

/-- THE SECOND FORM's CARD OF 'laws.FnExactDigestText'. -/
def fnExactDigestTextUptoCard : Claim7 := { stood := { row := fnExactDigestTextUptoRow, standIns := [], harness := (true, "50e5749d76ae4633d66f6b279e9b43447f0c8df1d2653bb3703c0f3044dd2ca7"), looks := false }, kinds := [], alts := [], laidByText := true, laidKinds := [.data, .data], laidTests := true, laidLooks := .later }
def FnExactDigestTextUptoCardSaid : Prop := Claim7.holds Tryd.pinned (.plain (OpenSpec.upto fnExactDigestTextSpec)) fnExactDigestTextUptoCard
end Rows
end Go.Proofs.YtbgiaoipdadanahDoor
