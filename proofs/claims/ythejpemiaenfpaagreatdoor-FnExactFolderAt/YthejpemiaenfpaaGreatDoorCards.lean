/-
  DERIVED. GIVEN WITH THE SEED: THE CARDS: each row of YthejpemiaenfpaaGreatDoorRows.lean that lists a variable, with what it lists TIED to the program's text (the seventh form; the later family's looks); each row that meets fmt, with fmt's text TOLD by the authors' own Lean function (tested against real Go, not proved from fmt's source: count such statements apart). THE CARD IS WHAT COUNTS. Prove the row's statement (the work); the ties are given (YthejpemiaenfpaaGreatDoorTie.lean); close each card by the builder's one call (the guide's Derived/Test/ToyasCard.lean, 'card_holds'). Laid BY PROGRAM, IN A SANDBOX (cutbox-door.mjs). By AI agents, Wed Nov 11 2026. No macro, syntax, notation, axiom, sorry.
-/
import Derived.Test.YthejpemiaenfpaaGreatDoorRows
import GoSem.ClaimSeven
namespace Go.Proofs.YthejpemiaenfpaaGreatDoor
namespace Rows

/-- THE TIED CARD OF 'laws.FnExactFolderAt'. -/
def fnExactFolderAtCard : Claim7 := { stood := { row := fnExactFolderAtRow, standIns := [], harness := (true, "9e33b8d24d20a7077d40bd8721d948319ddf2aaf4f36a57677f01f26487b1258"), looks := true }, kinds := [], alts := [], laidByText := true, laidKinds := [.data, .data, .data, .data, .sentinel, .sentinel, .pinned], laidTests := true, laidLooks := .later }
def FnExactFolderAtCardSaid : Prop := Claim7.holds Tryz.pinned (.plain (OpenSpec.ofChange fnExactFolderAtSpec)) fnExactFolderAtCard

/-- THE TIED CARD OF 'laws.FnExactAddUser'. -/
def fnExactAddUserCard : Claim7 := { stood := { row := fnExactAddUserRow, standIns := [], harness := (true, "9e33b8d24d20a7077d40bd8721d948319ddf2aaf4f36a57677f01f26487b1258"), looks := true }, kinds := [], alts := [], laidByText := true, laidKinds := [.data, .data, .data, .data, .sentinel, .sentinel, .pinned], laidTests := true, laidLooks := .later }
def FnExactAddUserCardSaid : Prop := Claim7.holds Tryz.pinned (.plain (OpenSpec.ofChange fnExactAddUserSpec)) fnExactAddUserCard

/-- THE TIED CARD OF 'laws.FnExactMakeFolder'. -/
def fnExactMakeFolderCard : Claim7 := { stood := { row := fnExactMakeFolderRow, standIns := [], harness := (true, "9e33b8d24d20a7077d40bd8721d948319ddf2aaf4f36a57677f01f26487b1258"), looks := true }, kinds := [], alts := [], laidByText := true, laidKinds := [.data, .data, .data, .data, .sentinel, .sentinel, .pinned], laidTests := true, laidLooks := .later }
def FnExactMakeFolderCardSaid : Prop := Claim7.holds Tryz.pinned (.plain (OpenSpec.ofChange fnExactMakeFolderSpec)) fnExactMakeFolderCard

/-- THE TIED CARD OF 'laws.FnExactDropFolder'. -/
def fnExactDropFolderCard : Claim7 := { stood := { row := fnExactDropFolderRow, standIns := [], harness := (true, "9e33b8d24d20a7077d40bd8721d948319ddf2aaf4f36a57677f01f26487b1258"), looks := true }, kinds := [], alts := [], laidByText := true, laidKinds := [.data, .data, .data, .data, .sentinel, .sentinel, .pinned], laidTests := true, laidLooks := .later }
def FnExactDropFolderCardSaid : Prop := Claim7.holds Tryz.pinned (.plain (OpenSpec.ofChange fnExactDropFolderSpec)) fnExactDropFolderCard

/-- THE TIED CARD OF 'laws.FnExactRenameFolder'. -/
def fnExactRenameFolderCard : Claim7 := { stood := { row := fnExactRenameFolderRow, standIns := [], harness := (true, "9e33b8d24d20a7077d40bd8721d948319ddf2aaf4f36a57677f01f26487b1258"), looks := true }, kinds := [], alts := [], laidByText := true, laidKinds := [.data, .data, .data, .data, .sentinel, .sentinel, .pinned], laidTests := true, laidLooks := .later }
def FnExactRenameFolderCardSaid : Prop := Claim7.holds Tryz.pinned (.plain (OpenSpec.ofChange fnExactRenameFolderSpec)) fnExactRenameFolderCard

/-- THE TIED CARD OF 'laws.FnExactAppendMail'. -/
def fnExactAppendMailCard : Claim7 := { stood := { row := fnExactAppendMailRow, standIns := [], harness := (true, "9e33b8d24d20a7077d40bd8721d948319ddf2aaf4f36a57677f01f26487b1258"), looks := true }, kinds := [], alts := [], laidByText := true, laidKinds := [.data, .data, .data, .data, .sentinel, .sentinel, .pinned], laidTests := true, laidLooks := .later }
def FnExactAppendMailCardSaid : Prop := Claim7.holds Tryz.pinned (.plain (OpenSpec.ofChange fnExactAppendMailSpec)) fnExactAppendMailCard

/-- THE TIED CARD OF 'laws.FnExactSetFlags'. -/
def fnExactSetFlagsCard : Claim7 := { stood := { row := fnExactSetFlagsRow, standIns := [], harness := (true, "9e33b8d24d20a7077d40bd8721d948319ddf2aaf4f36a57677f01f26487b1258"), looks := true }, kinds := [], alts := [], laidByText := true, laidKinds := [.data, .data, .data, .data, .sentinel, .sentinel, .pinned], laidTests := true, laidLooks := .later }
def FnExactSetFlagsCardSaid : Prop := Claim7.holds Tryz.pinned (.plain (OpenSpec.ofChange fnExactSetFlagsSpec)) fnExactSetFlagsCard

/-- THE TIED CARD OF 'laws.FnExactExpungeFolder'. -/
def fnExactExpungeFolderCard : Claim7 := { stood := { row := fnExactExpungeFolderRow, standIns := [], harness := (true, "9e33b8d24d20a7077d40bd8721d948319ddf2aaf4f36a57677f01f26487b1258"), looks := true }, kinds := [], alts := [], laidByText := true, laidKinds := [.data, .data, .data, .data, .sentinel, .sentinel, .pinned], laidTests := true, laidLooks := .later }
def FnExactExpungeFolderCardSaid : Prop := Claim7.holds Tryz.pinned (.plain (OpenSpec.ofChange fnExactExpungeFolderSpec)) fnExactExpungeFolderCard

/-- THE TIED CARD OF 'laws.FnExactCopyMail'. -/
def fnExactCopyMailCard : Claim7 := { stood := { row := fnExactCopyMailRow, standIns := [], harness := (true, "9e33b8d24d20a7077d40bd8721d948319ddf2aaf4f36a57677f01f26487b1258"), looks := true }, kinds := [], alts := [], laidByText := true, laidKinds := [.data, .data, .data, .data, .sentinel, .sentinel, .pinned], laidTests := true, laidLooks := .later }
def FnExactCopyMailCardSaid : Prop := Claim7.holds Tryz.pinned (.plain (OpenSpec.ofChange fnExactCopyMailSpec)) fnExactCopyMailCard

/-- THE SECOND FORM's CARD OF 'laws.FnExactFolderAt'. -/
def fnExactFolderAtUptoCard : Claim7 := { stood := { row := fnExactFolderAtUptoRow, standIns := [], harness := (true, "9e33b8d24d20a7077d40bd8721d948319ddf2aaf4f36a57677f01f26487b1258"), looks := true }, kinds := [], alts := [], laidByText := true, laidKinds := [.data, .data, .data, .data, .sentinel, .sentinel, .pinned], laidTests := true, laidLooks := .later }
def FnExactFolderAtUptoCardSaid : Prop := Claim7.holds Tryz.pinned (.plain (OpenSpec.upto fnExactFolderAtSpec)) fnExactFolderAtUptoCard

/-- THE SECOND FORM's CARD OF 'laws.FnExactAddUser'. -/
def fnExactAddUserUptoCard : Claim7 := { stood := { row := fnExactAddUserUptoRow, standIns := [], harness := (true, "9e33b8d24d20a7077d40bd8721d948319ddf2aaf4f36a57677f01f26487b1258"), looks := true }, kinds := [], alts := [], laidByText := true, laidKinds := [.data, .data, .data, .data, .sentinel, .sentinel, .pinned], laidTests := true, laidLooks := .later }
def FnExactAddUserUptoCardSaid : Prop := Claim7.holds Tryz.pinned (.plain (OpenSpec.upto fnExactAddUserSpec)) fnExactAddUserUptoCard

/-- THE SECOND FORM's CARD OF 'laws.FnExactMakeFolder'. -/
def fnExactMakeFolderUptoCard : Claim7 := { stood := { row := fnExactMakeFolderUptoRow, standIns := [], harness := (true, "9e33b8d24d20a7077d40bd8721d948319ddf2aaf4f36a57677f01f26487b1258"), looks := true }, kinds := [], alts := [], laidByText := true, laidKinds := [.data, .data, .data, .data, .sentinel, .sentinel, .pinned], laidTests := true, laidLooks := .later }
def FnExactMakeFolderUptoCardSaid : Prop := Claim7.holds Tryz.pinned (.plain (OpenSpec.upto fnExactMakeFolderSpec)) fnExactMakeFolderUptoCard

/-- THE SECOND FORM's CARD OF 'laws.FnExactDropFolder'. -/
def fnExactDropFolderUptoCard : Claim7 := { stood := { row := fnExactDropFolderUptoRow, standIns := [], harness := (true, "9e33b8d24d20a7077d40bd8721d948319ddf2aaf4f36a57677f01f26487b1258"), looks := true }, kinds := [], alts := [], laidByText := true, laidKinds := [.data, .data, .data, .data, .sentinel, .sentinel, .pinned], laidTests := true, laidLooks := .later }
def FnExactDropFolderUptoCardSaid : Prop := Claim7.holds Tryz.pinned (.plain (OpenSpec.upto fnExactDropFolderSpec)) fnExactDropFolderUptoCard

/-- THE SECOND FORM's CARD OF 'laws.FnExactRenameFolder'. -/
def fnExactRenameFolderUptoCard : Claim7 := { stood := { row := fnExactRenameFolderUptoRow, standIns := [], harness := (true, "9e33b8d24d20a7077d40bd8721d948319ddf2aaf4f36a57677f01f26487b1258"), looks := true }, kinds := [], alts := [], laidByText := true, laidKinds := [.data, .data, .data, .data, .sentinel, .sentinel, .pinned], laidTests := true, laidLooks := .later }
def FnExactRenameFolderUptoCardSaid : Prop := Claim7.holds Tryz.pinned (.plain (OpenSpec.upto fnExactRenameFolderSpec)) fnExactRenameFolderUptoCard

/-- THE SECOND FORM's CARD OF 'laws.FnExactAppendMail'. -/
def fnExactAppendMailUptoCard : Claim7 := { stood := { row := fnExactAppendMailUptoRow, standIns := [], harness := (true, "9e33b8d24d20a7077d40bd8721d948319ddf2aaf4f36a57677f01f26487b1258"), looks := true }, kinds := [], alts := [], laidByText := true, laidKinds := [.data, .data, .data, .data, .sentinel, .sentinel, .pinned], laidTests := true, laidLooks := .later }
def FnExactAppendMailUptoCardSaid : Prop := Claim7.holds Tryz.pinned (.plain (OpenSpec.upto fnExactAppendMailSpec)) fnExactAppendMailUptoCard

/-- THE SECOND FORM's CARD OF 'laws.FnExactSetFlags'. -/
def fnExactSetFlagsUptoCard : Claim7 := { stood := { row := fnExactSetFlagsUptoRow, standIns := [], harness := (true, "9e33b8d24d20a7077d40bd8721d948319ddf2aaf4f36a57677f01f26487b1258"), looks := true }, kinds := [], alts := [], laidByText := true, laidKinds := [.data, .data, .data, .data, .sentinel, .sentinel, .pinned], laidTests := true, laidLooks := .later }
def FnExactSetFlagsUptoCardSaid : Prop := Claim7.holds Tryz.pinned (.plain (OpenSpec.upto fnExactSetFlagsSpec)) fnExactSetFlagsUptoCard

/-- THE SECOND FORM's CARD OF 'laws.FnExactExpungeFolder'. -/
def fnExactExpungeFolderUptoCard : Claim7 := { stood := { row := fnExactExpungeFolderUptoRow, standIns := [], harness := (true, "9e33b8d24d20a7077d40bd8721d948319ddf2aaf4f36a57677f01f26487b1258"), looks := true }, kinds := [], alts := [], laidByText := true, laidKinds := [.data, .data, .data, .data, .sentinel, .sentinel, .pinned], laidTests := true, laidLooks := .later }
def FnExactExpungeFolderUptoCardSaid : Prop := Claim7.holds Tryz.pinned (.plain (OpenSpec.upto fnExactExpungeFolderSpec)) fnExactExpungeFolderUptoCard

/-- THE SECOND FORM's CARD OF 'laws.FnExactCopyMail'. -/
def fnExactCopyMailUptoCard : Claim7 := { stood := { row := fnExactCopyMailUptoRow, standIns := [], harness := (true, "9e33b8d24d20a7077d40bd8721d948319ddf2aaf4f36a57677f01f26487b1258"), looks := true }, kinds := [], alts := [], laidByText := true, laidKinds := [.data, .data, .data, .data, .sentinel, .sentinel, .pinned], laidTests := true, laidLooks := .later }
def FnExactCopyMailUptoCardSaid : Prop := Claim7.holds Tryz.pinned (.plain (OpenSpec.upto fnExactCopyMailSpec)) fnExactCopyMailUptoCard
end Rows
end Go.Proofs.YthejpemiaenfpaaGreatDoor
