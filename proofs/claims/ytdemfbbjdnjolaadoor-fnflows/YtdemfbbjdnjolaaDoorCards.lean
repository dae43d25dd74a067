/-
  DERIVED. GIVEN WITH THE SEED: THE CARDS: each row of YtdemfbbjdnjolaaDoorRows.lean that lists a variable, with what it lists TIED to the program's text (the seventh form; the later family's looks); each row that meets fmt, with fmt's text TOLD by the authors' own Lean function (tested against real Go, not proved from fmt's source: count such statements apart). THE CARD IS WHAT COUNTS. Prove the row's statement (the work); the ties are given (YtdemfbbjdnjolaaDoorTie.lean); close each card by the builder's one call (the guide's Derived/Test/ToyasCard.lean, 'card_holds'). Laid BY PROGRAM, IN A SANDBOX (cutbox-door.mjs). By AI agents, Wed Nov 11 2026. No macro, syntax, notation, axiom, sorry.
-/
import Derived.Test.YtdemfbbjdnjolaaDoorRows
import GoSem.ClaimSeven
namespace Go.Proofs.YtdemfbbjdnjolaaDoor
namespace Rows

/-- THE TIED CARD OF 'laws.FnFlows'. -/
def fnFlowsCard : Claim7 := { stood := { row := fnFlowsRow, standIns := [], harness := (true, "4f0e5d9c0c5eafbf4adcb81cd2349107ba86686e6ca1d3b05801611bfe19a602"), looks := true }, kinds := [], alts := [], laidByText := true, laidKinds := [.handle, .data, .data], laidTests := true, laidLooks := .later }
def FnFlowsCardSaid : Prop := Claim7.holds Tryd.pinned (.plain (OpenSpec.ofChange fnFlowsSpec)) fnFlowsCard

/-- THE TIED CARD OF 'laws.FnExactKeysOf'. -/
def fnExactKeysOfCard : Claim7 := { stood := { row := fnExactKeysOfRow, standIns := [], harness := (true, "4f0e5d9c0c5eafbf4adcb81cd2349107ba86686e6ca1d3b05801611bfe19a602"), looks := true }, kinds := [], alts := [], laidByText := true, laidKinds := [.data, .data], laidTests := true, laidLooks := .later }
def FnExactKeysOfCardSaid : Prop := Claim7.holds Tryd.pinned (.plain (OpenSpec.ofChange fnExactKeysOfSpec)) fnExactKeysOfCard

/-- THE TIED CARD OF 'laws.FnExactSendRecord'. -/
def fnExactSendRecordCard : Claim7 := { stood := { row := fnExactSendRecordRow, standIns := [], harness := (true, "4f0e5d9c0c5eafbf4adcb81cd2349107ba86686e6ca1d3b05801611bfe19a602"), looks := true }, kinds := [], alts := [], laidByText := true, laidKinds := [.data, .data], laidTests := true, laidLooks := .later }
def FnExactSendRecordCardSaid : Prop := Claim7.holds Tryd.pinned (.plain (OpenSpec.ofChange fnExactSendRecordSpec)) fnExactSendRecordCard

/-- THE SECOND FORM's CARD OF 'laws.FnFlows'. -/
def fnFlowsUptoCard : Claim7 := { stood := { row := fnFlowsUptoRow, standIns := [], harness := (true, "4f0e5d9c0c5eafbf4adcb81cd2349107ba86686e6ca1d3b05801611bfe19a602"), looks := true }, kinds := [], alts := [], laidByText := true, laidKinds := [.handle, .data, .data], laidTests := true, laidLooks := .later }
def FnFlowsUptoCardSaid : Prop := Claim7.holds Tryd.pinned (.plain (OpenSpec.upto fnFlowsSpec)) fnFlowsUptoCard

/-- THE SECOND FORM's CARD OF 'laws.FnExactKeysOf'. -/
def fnExactKeysOfUptoCard : Claim7 := { stood := { row := fnExactKeysOfUptoRow, standIns := [], harness := (true, "4f0e5d9c0c5eafbf4adcb81cd2349107ba86686e6ca1d3b05801611bfe19a602"), looks := true }, kinds := [], alts := [], laidByText := true, laidKinds := [.data, .data], laidTests := true, laidLooks := .later }
def FnExactKeysOfUptoCardSaid : Prop := Claim7.holds Tryd.pinned (.plain (OpenSpec.upto fnExactKeysOfSpec)) fnExactKeysOfUptoCard

/-- THE SECOND FORM's CARD OF 'laws.FnExactSendRecord'. -/
def fnExactSendRecordUptoCard : Claim7 := { stood := { row := fnExactSendRecordUptoRow, standIns := [], harness := (true, "4f0e5d9c0c5eafbf4adcb81cd2349107ba86686e6ca1d3b05801611bfe19a602"), looks := true }, kinds := [], alts := [], laidByText := true, laidKinds := [.data, .data], laidTests := true, laidLooks := .later }
def FnExactSendRecordUptoCardSaid : Prop := Claim7.holds Tryd.pinned (.plain (OpenSpec.upto fnExactSendRecordSpec)) fnExactSendRecordUptoCard
end Rows
end Go.Proofs.YtdemfbbjdnjolaaDoor
