/-
  DERIVED. GIVEN WITH THE SEED: THE CARDS: each row of YtpcgpefefklfoaaDoorRows.lean that lists a variable, with what it lists TIED to the program's text (the seventh form; the later family's looks); each row that meets fmt, with fmt's text TOLD by the authors' own Lean function (tested against real Go, not proved from fmt's source: count such statements apart). THE CARD IS WHAT COUNTS. Prove the row's statement (the work); the ties are given (YtpcgpefefklfoaaDoorTie.lean); close each card by the builder's one call (the guide's Derived/Test/ToyasCard.lean, 'card_holds'). Laid BY PROGRAM, IN A SANDBOX (cutbox-door.mjs). By AI agents, Wed Nov 11 2026. No macro, syntax, notation, axiom, sorry.
-/
import Derived.Test.YtpcgpefefklfoaaDoorRows
import GoSem.ClaimSeven
namespace Go.Proofs.YtpcgpefefklfoaaDoor
namespace Rows

/-- THE TIED CARD OF 'laws.FnSeals'. -/
def fnSealsCard : Claim7 := { stood := { row := fnSealsRow, standIns := [], harness := (true, "979e27bddfc6540d7110f02834b8537308aa14595b64beade84cbadf8f602b3f"), looks := true }, kinds := [], alts := [], laidByText := true, laidKinds := [.handle, .data, .data], laidTests := true, laidLooks := .later }
def FnSealsCardSaid : Prop := Claim7.holds Tryd.pinned (.plain (OpenSpec.ofChange fnSealsSpec)) fnSealsCard

/-- THE TIED CARD OF 'laws.FnFinishes'. -/
def fnFinishesCard : Claim7 := { stood := { row := fnFinishesRow, standIns := [], harness := (true, "979e27bddfc6540d7110f02834b8537308aa14595b64beade84cbadf8f602b3f"), looks := true }, kinds := [], alts := [], laidByText := true, laidKinds := [.data, .data], laidTests := true, laidLooks := .later }
def FnFinishesCardSaid : Prop := Claim7.holds Tryd.pinned (.plain (OpenSpec.ofChange fnFinishesSpec)) fnFinishesCard

/-- THE TIED CARD OF 'laws.FnExactSealBytes'. -/
def fnExactSealBytesCard : Claim7 := { stood := { row := fnExactSealBytesRow, standIns := [], harness := (true, "979e27bddfc6540d7110f02834b8537308aa14595b64beade84cbadf8f602b3f"), looks := true }, kinds := [], alts := [], laidByText := true, laidKinds := [.data, .data], laidTests := true, laidLooks := .later }
def FnExactSealBytesCardSaid : Prop := Claim7.holds Tryd.pinned (.plain (OpenSpec.ofChange fnExactSealBytesSpec)) fnExactSealBytesCard

/-- THE TIED CARD OF 'laws.FnExactOpenBytes'. -/
def fnExactOpenBytesCard : Claim7 := { stood := { row := fnExactOpenBytesRow, standIns := [], harness := (true, "979e27bddfc6540d7110f02834b8537308aa14595b64beade84cbadf8f602b3f"), looks := true }, kinds := [], alts := [], laidByText := true, laidKinds := [.handle, .data, .data], laidTests := true, laidLooks := .later }
def FnExactOpenBytesCardSaid : Prop := Claim7.holds Tryd.pinned (.plain (OpenSpec.ofChange fnExactOpenBytesSpec)) fnExactOpenBytesCard

/-- THE TIED CARD OF 'laws.FnExactTagOf'. -/
def fnExactTagOfCard : Claim7 := { stood := { row := fnExactTagOfRow, standIns := [], harness := (true, "979e27bddfc6540d7110f02834b8537308aa14595b64beade84cbadf8f602b3f"), looks := true }, kinds := [], alts := [], laidByText := true, laidKinds := [.data, .data], laidTests := true, laidLooks := .later }
def FnExactTagOfCardSaid : Prop := Claim7.holds Tryd.pinned (.plain (OpenSpec.ofChange fnExactTagOfSpec)) fnExactTagOfCard

/-- THE TIED CARD OF 'laws.FnExactFinishOf'. -/
def fnExactFinishOfCard : Claim7 := { stood := { row := fnExactFinishOfRow, standIns := [], harness := (true, "979e27bddfc6540d7110f02834b8537308aa14595b64beade84cbadf8f602b3f"), looks := true }, kinds := [], alts := [], laidByText := true, laidKinds := [.data, .data], laidTests := true, laidLooks := .later }
def FnExactFinishOfCardSaid : Prop := Claim7.holds Tryd.pinned (.plain (OpenSpec.ofChange fnExactFinishOfSpec)) fnExactFinishOfCard

/-- THE SECOND FORM's CARD OF 'laws.FnSeals'. -/
def fnSealsUptoCard : Claim7 := { stood := { row := fnSealsUptoRow, standIns := [], harness := (true, "979e27bddfc6540d7110f02834b8537308aa14595b64beade84cbadf8f602b3f"), looks := true }, kinds := [], alts := [], laidByText := true, laidKinds := [.handle, .data, .data], laidTests := true, laidLooks := .later }
def FnSealsUptoCardSaid : Prop := Claim7.holds Tryd.pinned (.plain (OpenSpec.upto fnSealsSpec)) fnSealsUptoCard

/-- THE SECOND FORM's CARD OF 'laws.FnFinishes'. -/
def fnFinishesUptoCard : Claim7 := { stood := { row := fnFinishesUptoRow, standIns := [], harness := (true, "979e27bddfc6540d7110f02834b8537308aa14595b64beade84cbadf8f602b3f"), looks := true }, kinds := [], alts := [], laidByText := true, laidKinds := [.data, .data], laidTests := true, laidLooks := .later }
def FnFinishesUptoCardSaid : Prop := Claim7.holds Tryd.pinned (.plain (OpenSpec.upto fnFinishesSpec)) fnFinishesUptoCard

/-- THE SECOND FORM's CARD OF 'laws.FnExactSealBytes'. -/
def fnExactSealBytesUptoCard : Claim7 := { stood := { row := fnExactSealBytesUptoRow, standIns := [], harness := (true, "979e27bddfc6540d7110f02834b8537308aa14595b64beade84cbadf8f602b3f"), looks := true }, kinds := [], alts := [], laidByText := true, laidKinds := [.data, .data], laidTests := true, laidLooks := .later }
def FnExactSealBytesUptoCardSaid : Prop := Claim7.holds Tryd.pinned (.plain (OpenSpec.upto fnExactSealBytesSpec)) fnExactSealBytesUptoCard

/-- THE SECOND FORM's CARD OF 'laws.FnExactOpenBytes'. -/
def fnExactOpenBytesUptoCard : Claim7 := { stood := { row := fnExactOpenBytesUptoRow, standIns := [], harness := (true, "979e27bddfc6540d7110f02834b8537308aa14595b64beade84cbadf8f602b3f"), looks := true }, kinds := [], alts := [], laidByText := true, laidKinds := [.handle, .data, .data], laidTests := true, laidLooks := .later }
def FnExactOpenBytesUptoCardSaid : Prop := Claim7.holds Tryd.pinned (.plain (OpenSpec.upto fnExactOpenBytesSpec)) fnExactOpenBytesUptoCard

/-- THE SECOND FORM's CARD OF 'laws.FnExactTagOf'. -/
def fnExactTagOfUptoCard : Claim7 := { stood := { row := fnExactTagOfUptoRow, standIns := [], harness := (true, "979e27bddfc6540d7110f02834b8537308aa14595b64beade84cbadf8f602b3f"), looks := true }, kinds := [], alts := [], laidByText := true, laidKinds := [.data, .data], laidTests := true, laidLooks := .later }
def FnExactTagOfUptoCardSaid : Prop := Claim7.holds Tryd.pinned (.plain (OpenSpec.upto fnExactTagOfSpec)) fnExactTagOfUptoCard

/-- THE SECOND FORM's CARD OF 'laws.FnExactFinishOf'. -/
def fnExactFinishOfUptoCard : Claim7 := { stood := { row := fnExactFinishOfUptoRow, standIns := [], harness := (true, "979e27bddfc6540d7110f02834b8537308aa14595b64beade84cbadf8f602b3f"), looks := true }, kinds := [], alts := [], laidByText := true, laidKinds := [.data, .data], laidTests := true, laidLooks := .later }
def FnExactFinishOfUptoCardSaid : Prop := Claim7.holds Tryd.pinned (.plain (OpenSpec.upto fnExactFinishOfSpec)) fnExactFinishOfUptoCard
end Rows
end Go.Proofs.YtpcgpefefklfoaaDoor
