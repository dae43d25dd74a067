/-
  DERIVED. GIVEN WITH THE SEED: THE CARDS: each row of YtdbpnibcblelbaaDoorRows.lean that lists a variable, with what it lists TIED to the program's text (the seventh form; the later family's looks); each row that meets fmt, with fmt's text TOLD by the authors' own Lean function (tested against real Go, not proved from fmt's source: count such statements apart). THE CARD IS WHAT COUNTS. Prove the row's statement (the work); the ties are given (YtdbpnibcblelbaaDoorTie.lean); close each card by the builder's one call (the guide's Derived/Test/ToyasCard.lean, 'card_holds'). Laid BY PROGRAM, IN A SANDBOX (cutbox-door.mjs). By AI agents, Wed Nov 11 2026. No macro, syntax, notation, axiom, sorry.
-/
import Derived.Test.YtdbpnibcblelbaaDoorRows
import GoSem.ClaimSeven
namespace Go.Proofs.YtdbpnibcblelbaaDoor
namespace Rows

/-- THE TIED CARD OF 'laws.FnExactAuthKey'. -/
def fnExactAuthKeyCard : Claim7 := { stood := { row := fnExactAuthKeyRow, standIns := [], harness := (true, "24bc9c69df311df7093a42e44f4cc9996378f6d51b67f6e4b96254cc66bb8e32"), looks := false }, kinds := [], alts := [], laidByText := true, laidKinds := [.data, .data], laidTests := true, laidLooks := .later }
def FnExactAuthKeyCardSaid : Prop := Claim7.holds Tryd.pinned (.plain (OpenSpec.ofChange fnExactAuthKeySpec)) fnExactAuthKeyCard

/-- THE TIED CARD OF 'laws.FnExactAuthDigest'. -/
def fnExactAuthDigestCard : Claim7 := { stood := { row := fnExactAuthDigestRow, standIns := [], harness := (true, "24bc9c69df311df7093a42e44f4cc9996378f6d51b67f6e4b96254cc66bb8e32"), looks := false }, kinds := [], alts := [], laidByText := true, laidKinds := [.data, .data], laidTests := true, laidLooks := .later }
def FnExactAuthDigestCardSaid : Prop := Claim7.holds Tryd.pinned (.plain (OpenSpec.ofChange fnExactAuthDigestSpec)) fnExactAuthDigestCard

/-- THE SECOND FORM's CARD OF 'laws.FnExactAuthKey'. -/
def fnExactAuthKeyUptoCard : Claim7 := { stood := { row := fnExactAuthKeyUptoRow, standIns := [], harness := (true, "24bc9c69df311df7093a42e44f4cc9996378f6d51b67f6e4b96254cc66bb8e32"), looks := false }, kinds := [], alts := [], laidByText := true, laidKinds := [.data, .data], laidTests := true, laidLooks := .later }
def FnExactAuthKeyUptoCardSaid : Prop := Claim7.holds Tryd.pinned (.plain (OpenSpec.upto fnExactAuthKeySpec)) fnExactAuthKeyUptoCard

/-- THE SECOND FORM's CARD OF 'laws.FnExactAuthDigest'. -/
def fnExactAuthDigestUptoCard : Claim7 := { stood := { row := fnExactAuthDigestUptoRow, standIns := [], harness := (true, "24bc9c69df311df7093a42e44f4cc9996378f6d51b67f6e4b96254cc66bb8e32"), looks := false }, kinds := [], alts := [], laidByText := true, laidKinds := [.data, .data], laidTests := true, laidLooks := .later }
def FnExactAuthDigestUptoCardSaid : Prop := Claim7.holds Tryd.pinned (.plain (OpenSpec.upto fnExactAuthDigestSpec)) fnExactAuthDigestUptoCard
end Rows
end Go.Proofs.YtdbpnibcblelbaaDoor
