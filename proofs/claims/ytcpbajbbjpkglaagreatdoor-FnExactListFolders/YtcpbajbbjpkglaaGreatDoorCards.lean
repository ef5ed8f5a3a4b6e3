/-
  DERIVED. GIVEN WITH THE SEED: THE CARDS: each row of YtcpbajbbjpkglaaGreatDoorRows.lean that lists a variable, with what it lists TIED to the program's text (the seventh form; the later family's looks); each row that meets fmt, with fmt's text TOLD by the authors' own Lean function (tested against real Go, not proved from fmt's source: count such statements apart). THE CARD IS WHAT COUNTS. Prove the row's statement (the work); the ties are given (YtcpbajbbjpkglaaGreatDoorTie.lean); close each card by the builder's one call (the guide's Derived/Test/ToyasCard.lean, 'card_holds'). Laid BY PROGRAM, IN A SANDBOX (cutbox-door.mjs). By AI agents, Wed Nov 11 2026. No macro, syntax, notation, axiom, sorry.
-/
import Derived.Test.YtcpbajbbjpkglaaGreatDoorRows
import GoSem.ClaimSeven
namespace Go.Proofs.YtcpbajbbjpkglaaGreatDoor
namespace Rows

/-- THE TIED CARD OF 'laws.FnExactMailStoreOK'. -/
def fnExactMailStoreOKCard : Claim7 := { stood := { row := fnExactMailStoreOKRow, standIns := [], harness := (true, "765c39f180e6b7b538cc53cec937701daf81fa00d31c778fc9af185c58d4690a"), looks := true }, kinds := [], alts := [], laidByText := true, laidKinds := [.data, .data, .data, .data, .sentinel, .sentinel, .pinned], laidTests := true, laidLooks := .later }
def FnExactMailStoreOKCardSaid : Prop := Claim7.holds Tryz.pinned (.plain (OpenSpec.ofChange fnExactMailStoreOKSpec)) fnExactMailStoreOKCard

/-- THE TIED CARD OF 'laws.FnExactUserPass'. -/
def fnExactUserPassCard : Claim7 := { stood := { row := fnExactUserPassRow, standIns := [], harness := (true, "765c39f180e6b7b538cc53cec937701daf81fa00d31c778fc9af185c58d4690a"), looks := true }, kinds := [], alts := [], laidByText := true, laidKinds := [.data, .data, .data, .data, .sentinel, .sentinel, .pinned], laidTests := true, laidLooks := .later }
def FnExactUserPassCardSaid : Prop := Claim7.holds Tryz.pinned (.plain (OpenSpec.ofChange fnExactUserPassSpec)) fnExactUserPassCard

/-- THE TIED CARD OF 'laws.FnExactListFolders'. -/
def fnExactListFoldersCard : Claim7 := { stood := { row := fnExactListFoldersRow, standIns := [], harness := (true, "765c39f180e6b7b538cc53cec937701daf81fa00d31c778fc9af185c58d4690a"), looks := true }, kinds := [], alts := [], laidByText := true, laidKinds := [.data, .data, .data, .data, .sentinel, .sentinel, .pinned], laidTests := true, laidLooks := .later }
def FnExactListFoldersCardSaid : Prop := Claim7.holds Tryz.pinned (.plain (OpenSpec.ofChange fnExactListFoldersSpec)) fnExactListFoldersCard

/-- THE TIED CARD OF 'laws.FnExactFolderAt'. -/
def fnExactFolderAtCard : Claim7 := { stood := { row := fnExactFolderAtRow, standIns := [], harness := (true, "765c39f180e6b7b538cc53cec937701daf81fa00d31c778fc9af185c58d4690a"), looks := true }, kinds := [], alts := [], laidByText := true, laidKinds := [.data, .data, .data, .data, .sentinel, .sentinel, .pinned], laidTests := true, laidLooks := .later }
def FnExactFolderAtCardSaid : Prop := Claim7.holds Tryz.pinned (.plain (OpenSpec.ofChange fnExactFolderAtSpec)) fnExactFolderAtCard

/-- THE SECOND FORM's CARD OF 'laws.FnExactMailStoreOK'. -/
def fnExactMailStoreOKUptoCard : Claim7 := { stood := { row := fnExactMailStoreOKUptoRow, standIns := [], harness := (true, "765c39f180e6b7b538cc53cec937701daf81fa00d31c778fc9af185c58d4690a"), looks := true }, kinds := [], alts := [], laidByText := true, laidKinds := [.data, .data, .data, .data, .sentinel, .sentinel, .pinned], laidTests := true, laidLooks := .later }
def FnExactMailStoreOKUptoCardSaid : Prop := Claim7.holds Tryz.pinned (.plain (OpenSpec.upto fnExactMailStoreOKSpec)) fnExactMailStoreOKUptoCard

/-- THE SECOND FORM's CARD OF 'laws.FnExactUserPass'. -/
def fnExactUserPassUptoCard : Claim7 := { stood := { row := fnExactUserPassUptoRow, standIns := [], harness := (true, "765c39f180e6b7b538cc53cec937701daf81fa00d31c778fc9af185c58d4690a"), looks := true }, kinds := [], alts := [], laidByText := true, laidKinds := [.data, .data, .data, .data, .sentinel, .sentinel, .pinned], laidTests := true, laidLooks := .later }
def FnExactUserPassUptoCardSaid : Prop := Claim7.holds Tryz.pinned (.plain (OpenSpec.upto fnExactUserPassSpec)) fnExactUserPassUptoCard

/-- THE SECOND FORM's CARD OF 'laws.FnExactListFolders'. -/
def fnExactListFoldersUptoCard : Claim7 := { stood := { row := fnExactListFoldersUptoRow, standIns := [], harness := (true, "765c39f180e6b7b538cc53cec937701daf81fa00d31c778fc9af185c58d4690a"), looks := true }, kinds := [], alts := [], laidByText := true, laidKinds := [.data, .data, .data, .data, .sentinel, .sentinel, .pinned], laidTests := true, laidLooks := .later }
def FnExactListFoldersUptoCardSaid : Prop := Claim7.holds Tryz.pinned (.plain (OpenSpec.upto fnExactListFoldersSpec)) fnExactListFoldersUptoCard

/-- THE SECOND FORM's CARD OF 'laws.FnExactFolderAt'. -/
def fnExactFolderAtUptoCard : Claim7 := { stood := { row := fnExactFolderAtUptoRow, standIns := [], harness := (true, "765c39f180e6b7b538cc53cec937701daf81fa00d31c778fc9af185c58d4690a"), looks := true }, kinds := [], alts := [], laidByText := true, laidKinds := [.data, .data, .data, .data, .sentinel, .sentinel, .pinned], laidTests := true, laidLooks := .later }
def FnExactFolderAtUptoCardSaid : Prop := Claim7.holds Tryz.pinned (.plain (OpenSpec.upto fnExactFolderAtSpec)) fnExactFolderAtUptoCard
end Rows
end Go.Proofs.YtcpbajbbjpkglaaGreatDoor
