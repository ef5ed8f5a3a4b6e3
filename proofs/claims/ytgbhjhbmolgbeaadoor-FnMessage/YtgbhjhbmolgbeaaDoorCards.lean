/-
  DERIVED. GIVEN WITH THE SEED: THE CARDS: each row of YtgbhjhbmolgbeaaDoorRows.lean that lists a variable, with what it lists TIED to the program's text (the seventh form; the later family's looks); each row that meets fmt, with fmt's text TOLD by the authors' own Lean function (tested against real Go, not proved from fmt's source: count such statements apart). THE CARD IS WHAT COUNTS. Prove the row's statement (the work); the ties are given (YtgbhjhbmolgbeaaDoorTie.lean); close each card by the builder's one call (the guide's Derived/Test/ToyasCard.lean, 'card_holds'). Laid BY PROGRAM, IN A SANDBOX (cutbox-door.mjs). By AI agents, Wed Nov 11 2026. No macro, syntax, notation, axiom, sorry.
-/
import Derived.Test.YtgbhjhbmolgbeaaDoorRows
import GoSem.ClaimSeven
namespace Go.Proofs.YtgbhjhbmolgbeaaDoor
namespace Rows

/-- THE TIED CARD OF 'laws.FnMessage'. -/
def fnMessageCard : Claim7 := { stood := { row := fnMessageRow, standIns := [], harness := (true, "f88be8cbda3d89b932be7c3ec170ec1cec86063dcce2e40ae4dcbd1e5d3b4d99"), looks := false }, kinds := [], alts := [], laidByText := true, laidKinds := [.data, .pinned], laidTests := true, laidLooks := .later }
def FnMessageCardSaid : Prop := Claim7.holds Tryd.pinned (.plain (OpenSpec.ofChange fnMessageSpec)) fnMessageCard

/-- THE TIED CARD OF 'laws.FnExactMessageOK'. -/
def fnExactMessageOKCard : Claim7 := { stood := { row := fnExactMessageOKRow, standIns := [], harness := (true, "f88be8cbda3d89b932be7c3ec170ec1cec86063dcce2e40ae4dcbd1e5d3b4d99"), looks := false }, kinds := [], alts := [], laidByText := true, laidKinds := [.data, .pinned], laidTests := true, laidLooks := .later }
def FnExactMessageOKCardSaid : Prop := Claim7.holds Tryd.pinned (.plain (OpenSpec.ofChange fnExactMessageOKSpec)) fnExactMessageOKCard

/-- THE TIED CARD OF 'laws.FnExactParseMessage'. -/
def fnExactParseMessageCard : Claim7 := { stood := { row := fnExactParseMessageRow, standIns := [], harness := (true, "f88be8cbda3d89b932be7c3ec170ec1cec86063dcce2e40ae4dcbd1e5d3b4d99"), looks := false }, kinds := [], alts := [], laidByText := true, laidKinds := [.data, .pinned], laidTests := true, laidLooks := .later }
def FnExactParseMessageCardSaid : Prop := Claim7.holds Tryd.pinned (.plain (OpenSpec.ofChange fnExactParseMessageSpec)) fnExactParseMessageCard

/-- THE TIED CARD OF 'laws.FnExactMessageText'. -/
def fnExactMessageTextCard : Claim7 := { stood := { row := fnExactMessageTextRow, standIns := [], harness := (true, "f88be8cbda3d89b932be7c3ec170ec1cec86063dcce2e40ae4dcbd1e5d3b4d99"), looks := false }, kinds := [], alts := [], laidByText := true, laidKinds := [.data, .pinned], laidTests := true, laidLooks := .later }
def FnExactMessageTextCardSaid : Prop := Claim7.holds Tryd.pinned (.plain (OpenSpec.ofChange fnExactMessageTextSpec)) fnExactMessageTextCard

/-- THE TIED CARD OF 'laws.FnExactFieldOf'. -/
def fnExactFieldOfCard : Claim7 := { stood := { row := fnExactFieldOfRow, standIns := [], harness := (true, "f88be8cbda3d89b932be7c3ec170ec1cec86063dcce2e40ae4dcbd1e5d3b4d99"), looks := false }, kinds := [], alts := [], laidByText := true, laidKinds := [.data, .pinned], laidTests := true, laidLooks := .later }
def FnExactFieldOfCardSaid : Prop := Claim7.holds Tryd.pinned (.plain (OpenSpec.ofChange fnExactFieldOfSpec)) fnExactFieldOfCard

/-- THE TIED CARD OF 'laws.FnExactSearchMails'. -/
def fnExactSearchMailsCard : Claim7 := { stood := { row := fnExactSearchMailsRow, standIns := [], harness := (true, "f88be8cbda3d89b932be7c3ec170ec1cec86063dcce2e40ae4dcbd1e5d3b4d99"), looks := false }, kinds := [], alts := [], laidByText := true, laidKinds := [.data, .pinned], laidTests := true, laidLooks := .later }
def FnExactSearchMailsCardSaid : Prop := Claim7.holds Tryd.pinned (.plain (OpenSpec.ofChange fnExactSearchMailsSpec)) fnExactSearchMailsCard

/-- THE SECOND FORM's CARD OF 'laws.FnMessage'. -/
def fnMessageUptoCard : Claim7 := { stood := { row := fnMessageUptoRow, standIns := [], harness := (true, "f88be8cbda3d89b932be7c3ec170ec1cec86063dcce2e40ae4dcbd1e5d3b4d99"), looks := false }, kinds := [], alts := [], laidByText := true, laidKinds := [.data, .pinned], laidTests := true, laidLooks := .later }
def FnMessageUptoCardSaid : Prop := Claim7.holds Tryd.pinned (.plain (OpenSpec.upto fnMessageSpec)) fnMessageUptoCard

/-- THE SECOND FORM's CARD OF 'laws.FnExactMessageOK'. -/
def fnExactMessageOKUptoCard : Claim7 := { stood := { row := fnExactMessageOKUptoRow, standIns := [], harness := (true, "f88be8cbda3d89b932be7c3ec170ec1cec86063dcce2e40ae4dcbd1e5d3b4d99"), looks := false }, kinds := [], alts := [], laidByText := true, laidKinds := [.data, .pinned], laidTests := true, laidLooks := .later }
def FnExactMessageOKUptoCardSaid : Prop := Claim7.holds Tryd.pinned (.plain (OpenSpec.upto fnExactMessageOKSpec)) fnExactMessageOKUptoCard

/-- THE SECOND FORM's CARD OF 'laws.FnExactParseMessage'. -/
def fnExactParseMessageUptoCard : Claim7 := { stood := { row := fnExactParseMessageUptoRow, standIns := [], harness := (true, "f88be8cbda3d89b932be7c3ec170ec1cec86063dcce2e40ae4dcbd1e5d3b4d99"), looks := false }, kinds := [], alts := [], laidByText := true, laidKinds := [.data, .pinned], laidTests := true, laidLooks := .later }
def FnExactParseMessageUptoCardSaid : Prop := Claim7.holds Tryd.pinned (.plain (OpenSpec.upto fnExactParseMessageSpec)) fnExactParseMessageUptoCard

/-- THE SECOND FORM's CARD OF 'laws.FnExactMessageText'. -/
def fnExactMessageTextUptoCard : Claim7 := { stood := { row := fnExactMessageTextUptoRow, standIns := [], harness := (true, "f88be8cbda3d89b932be7c3ec170ec1cec86063dcce2e40ae4dcbd1e5d3b4d99"), looks := false }, kinds := [], alts := [], laidByText := true, laidKinds := [.data, .pinned], laidTests := true, laidLooks := .later }
def FnExactMessageTextUptoCardSaid : Prop := Claim7.holds Tryd.pinned (.plain (OpenSpec.upto fnExactMessageTextSpec)) fnExactMessageTextUptoCard

/-- THE SECOND FORM's CARD OF 'laws.FnExactFieldOf'. -/
def fnExactFieldOfUptoCard : Claim7 := { stood := { row := fnExactFieldOfUptoRow, standIns := [], harness := (true, "f88be8cbda3d89b932be7c3ec170ec1cec86063dcce2e40ae4dcbd1e5d3b4d99"), looks := false }, kinds := [], alts := [], laidByText := true, laidKinds := [.data, .pinned], laidTests := true, laidLooks := .later }
def FnExactFieldOfUptoCardSaid : Prop := Claim7.holds Tryd.pinned (.plain (OpenSpec.upto fnExactFieldOfSpec)) fnExactFieldOfUptoCard

/-- THE SECOND FORM's CARD OF 'laws.FnExactSearchMails'. -/
def fnExactSearchMailsUptoCard : Claim7 := { stood := { row := fnExactSearchMailsUptoRow, standIns := [], harness := (true, "f88be8cbda3d89b932be7c3ec170ec1cec86063dcce2e40ae4dcbd1e5d3b4d99"), looks := false }, kinds := [], alts := [], laidByText := true, laidKinds := [.data, .pinned], laidTests := true, laidLooks := .later }
def FnExactSearchMailsUptoCardSaid : Prop := Claim7.holds Tryd.pinned (.plain (OpenSpec.upto fnExactSearchMailsSpec)) fnExactSearchMailsUptoCard
end Rows
end Go.Proofs.YtgbhjhbmolgbeaaDoor
