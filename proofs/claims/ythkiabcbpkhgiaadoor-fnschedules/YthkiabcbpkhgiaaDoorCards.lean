/-
  DERIVED. GIVEN WITH THE SEED: THE CARDS: each row of YthkiabcbpkhgiaaDoorRows.lean that lists a variable, with what it lists TIED to the program's text (the seventh form; the later family's looks); each row that meets fmt, with fmt's text TOLD by the authors' own Lean function (tested against real Go, not proved from fmt's source: count such statements apart). THE CARD IS WHAT COUNTS. Prove the row's statement (the work); the ties are given (YthkiabcbpkhgiaaDoorTie.lean); close each card by the builder's one call (the guide's Derived/Test/ToyasCard.lean, 'card_holds'). Laid BY PROGRAM, IN A SANDBOX (cutbox-door.mjs). By AI agents, Wed Nov 11 2026. No macro, syntax, notation, axiom, sorry.
-/
import Derived.Test.YthkiabcbpkhgiaaDoorRows
import GoSem.ClaimSeven
namespace Go.Proofs.YthkiabcbpkhgiaaDoor
namespace Rows

/-- THE TIED CARD OF 'laws.FnSchedules'. -/
def fnSchedulesCard : Claim7 := { stood := { row := fnSchedulesRow, standIns := [], harness := (true, "f4763a2ad5ae3d3d47f1aeb04d92d6fced3174cd3e7243bdac7996fed392d927"), looks := false }, kinds := [], alts := [], laidByText := true, laidKinds := [.data, .data], laidTests := true, laidLooks := .later }
def FnSchedulesCardSaid : Prop := Claim7.holds Tryd.pinned (.plain (OpenSpec.ofChange fnSchedulesSpec)) fnSchedulesCard

/-- THE TIED CARD OF 'laws.FnExactEarlySecret'. -/
def fnExactEarlySecretCard : Claim7 := { stood := { row := fnExactEarlySecretRow, standIns := [], harness := (true, "f4763a2ad5ae3d3d47f1aeb04d92d6fced3174cd3e7243bdac7996fed392d927"), looks := false }, kinds := [], alts := [], laidByText := true, laidKinds := [.data, .data], laidTests := true, laidLooks := .later }
def FnExactEarlySecretCardSaid : Prop := Claim7.holds Tryd.pinned (.plain (OpenSpec.ofChange fnExactEarlySecretSpec)) fnExactEarlySecretCard

/-- THE TIED CARD OF 'laws.FnExactHandshakeSecret'. -/
def fnExactHandshakeSecretCard : Claim7 := { stood := { row := fnExactHandshakeSecretRow, standIns := [], harness := (true, "f4763a2ad5ae3d3d47f1aeb04d92d6fced3174cd3e7243bdac7996fed392d927"), looks := false }, kinds := [], alts := [], laidByText := true, laidKinds := [.data, .data], laidTests := true, laidLooks := .later }
def FnExactHandshakeSecretCardSaid : Prop := Claim7.holds Tryd.pinned (.plain (OpenSpec.ofChange fnExactHandshakeSecretSpec)) fnExactHandshakeSecretCard

/-- THE TIED CARD OF 'laws.FnExactMasterSecret'. -/
def fnExactMasterSecretCard : Claim7 := { stood := { row := fnExactMasterSecretRow, standIns := [], harness := (true, "f4763a2ad5ae3d3d47f1aeb04d92d6fced3174cd3e7243bdac7996fed392d927"), looks := false }, kinds := [], alts := [], laidByText := true, laidKinds := [.data, .data], laidTests := true, laidLooks := .later }
def FnExactMasterSecretCardSaid : Prop := Claim7.holds Tryd.pinned (.plain (OpenSpec.ofChange fnExactMasterSecretSpec)) fnExactMasterSecretCard

/-- THE TIED CARD OF 'laws.FnExactTrafficOf'. -/
def fnExactTrafficOfCard : Claim7 := { stood := { row := fnExactTrafficOfRow, standIns := [], harness := (true, "f4763a2ad5ae3d3d47f1aeb04d92d6fced3174cd3e7243bdac7996fed392d927"), looks := false }, kinds := [], alts := [], laidByText := true, laidKinds := [.data, .data], laidTests := true, laidLooks := .later }
def FnExactTrafficOfCardSaid : Prop := Claim7.holds Tryd.pinned (.plain (OpenSpec.ofChange fnExactTrafficOfSpec)) fnExactTrafficOfCard

/-- THE TIED CARD OF 'laws.FnExactSecretsOf'. -/
def fnExactSecretsOfCard : Claim7 := { stood := { row := fnExactSecretsOfRow, standIns := [], harness := (true, "f4763a2ad5ae3d3d47f1aeb04d92d6fced3174cd3e7243bdac7996fed392d927"), looks := false }, kinds := [], alts := [], laidByText := true, laidKinds := [.data, .data], laidTests := true, laidLooks := .later }
def FnExactSecretsOfCardSaid : Prop := Claim7.holds Tryd.pinned (.plain (OpenSpec.ofChange fnExactSecretsOfSpec)) fnExactSecretsOfCard

/-- THE SECOND FORM's CARD OF 'laws.FnSchedules'. -/
def fnSchedulesUptoCard : Claim7 := { stood := { row := fnSchedulesUptoRow, standIns := [], harness := (true, "f4763a2ad5ae3d3d47f1aeb04d92d6fced3174cd3e7243bdac7996fed392d927"), looks := false }, kinds := [], alts := [], laidByText := true, laidKinds := [.data, .data], laidTests := true, laidLooks := .later }
def FnSchedulesUptoCardSaid : Prop := Claim7.holds Tryd.pinned (.plain (OpenSpec.upto fnSchedulesSpec)) fnSchedulesUptoCard

/-- THE SECOND FORM's CARD OF 'laws.FnExactEarlySecret'. -/
def fnExactEarlySecretUptoCard : Claim7 := { stood := { row := fnExactEarlySecretUptoRow, standIns := [], harness := (true, "f4763a2ad5ae3d3d47f1aeb04d92d6fced3174cd3e7243bdac7996fed392d927"), looks := false }, kinds := [], alts := [], laidByText := true, laidKinds := [.data, .data], laidTests := true, laidLooks := .later }
def FnExactEarlySecretUptoCardSaid : Prop := Claim7.holds Tryd.pinned (.plain (OpenSpec.upto fnExactEarlySecretSpec)) fnExactEarlySecretUptoCard

/-- THE SECOND FORM's CARD OF 'laws.FnExactHandshakeSecret'. -/
def fnExactHandshakeSecretUptoCard : Claim7 := { stood := { row := fnExactHandshakeSecretUptoRow, standIns := [], harness := (true, "f4763a2ad5ae3d3d47f1aeb04d92d6fced3174cd3e7243bdac7996fed392d927"), looks := false }, kinds := [], alts := [], laidByText := true, laidKinds := [.data, .data], laidTests := true, laidLooks := .later }
def FnExactHandshakeSecretUptoCardSaid : Prop := Claim7.holds Tryd.pinned (.plain (OpenSpec.upto fnExactHandshakeSecretSpec)) fnExactHandshakeSecretUptoCard

/-- THE SECOND FORM's CARD OF 'laws.FnExactMasterSecret'. -/
def fnExactMasterSecretUptoCard : Claim7 := { stood := { row := fnExactMasterSecretUptoRow, standIns := [], harness := (true, "f4763a2ad5ae3d3d47f1aeb04d92d6fced3174cd3e7243bdac7996fed392d927"), looks := false }, kinds := [], alts := [], laidByText := true, laidKinds := [.data, .data], laidTests := true, laidLooks := .later }
def FnExactMasterSecretUptoCardSaid : Prop := Claim7.holds Tryd.pinned (.plain (OpenSpec.upto fnExactMasterSecretSpec)) fnExactMasterSecretUptoCard

/-- THE SECOND FORM's CARD OF 'laws.FnExactTrafficOf'. -/
def fnExactTrafficOfUptoCard : Claim7 := { stood := { row := fnExactTrafficOfUptoRow, standIns := [], harness := (true, "f4763a2ad5ae3d3d47f1aeb04d92d6fced3174cd3e7243bdac7996fed392d927"), looks := false }, kinds := [], alts := [], laidByText := true, laidKinds := [.data, .data], laidTests := true, laidLooks := .later }
def FnExactTrafficOfUptoCardSaid : Prop := Claim7.holds Tryd.pinned (.plain (OpenSpec.upto fnExactTrafficOfSpec)) fnExactTrafficOfUptoCard

/-- THE SECOND FORM's CARD OF 'laws.FnExactSecretsOf'. -/
def fnExactSecretsOfUptoCard : Claim7 := { stood := { row := fnExactSecretsOfUptoRow, standIns := [], harness := (true, "f4763a2ad5ae3d3d47f1aeb04d92d6fced3174cd3e7243bdac7996fed392d927"), looks := false }, kinds := [], alts := [], laidByText := true, laidKinds := [.data, .data], laidTests := true, laidLooks := .later }
def FnExactSecretsOfUptoCardSaid : Prop := Claim7.holds Tryd.pinned (.plain (OpenSpec.upto fnExactSecretsOfSpec)) fnExactSecretsOfUptoCard
end Rows
end Go.Proofs.YthkiabcbpkhgiaaDoor
