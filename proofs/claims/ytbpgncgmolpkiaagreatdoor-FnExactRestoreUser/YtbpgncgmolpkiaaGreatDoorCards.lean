/-
  DERIVED. GIVEN WITH THE SEED: THE CARDS: each row of YtbpgncgmolpkiaaGreatDoorRows.lean that lists a variable, with what it lists TIED to the program's text (the seventh form; the later family's looks); each row that meets fmt, with fmt's text TOLD by the authors' own Lean function (tested against real Go, not proved from fmt's source: count such statements apart). THE CARD IS WHAT COUNTS. Prove the row's statement (the work); the ties are given (YtbpgncgmolpkiaaGreatDoorTie.lean); close each card by the builder's one call (the guide's Derived/Test/ToyasCard.lean, 'card_holds'). Laid BY PROGRAM, IN A SANDBOX (cutbox-door.mjs). By AI agents, Wed Nov 11 2026. No macro, syntax, notation, axiom, sorry.
-/
import Derived.Test.YtbpgncgmolpkiaaGreatDoorRows
import GoSem.ClaimSeven
namespace Go.Proofs.YtbpgncgmolpkiaaGreatDoor
namespace Rows

/-- THE TIED CARD OF 'laws.FnExactRenameFolder'. -/
def fnExactRenameFolderCard : Claim7 := { stood := { row := fnExactRenameFolderRow, standIns := [], harness := (true, "2549c5bfa5cccf43c7fb2bb721d12b326deb76309f39999121f8977acec6d512"), looks := true }, kinds := [], alts := [], laidByText := true, laidKinds := [.data, .data, .data, .data, .sentinel, .sentinel, .pinned], laidTests := true, laidLooks := .later }
def FnExactRenameFolderCardSaid : Prop := Claim7.holds Tryz.pinned (.plain (OpenSpec.ofChange fnExactRenameFolderSpec)) fnExactRenameFolderCard

/-- THE TIED CARD OF 'laws.FnExactExpungeFolder'. -/
def fnExactExpungeFolderCard : Claim7 := { stood := { row := fnExactExpungeFolderRow, standIns := [], harness := (true, "2549c5bfa5cccf43c7fb2bb721d12b326deb76309f39999121f8977acec6d512"), looks := true }, kinds := [], alts := [], laidByText := true, laidKinds := [.data, .data, .data, .data, .sentinel, .sentinel, .pinned], laidTests := true, laidLooks := .later }
def FnExactExpungeFolderCardSaid : Prop := Claim7.holds Tryz.pinned (.plain (OpenSpec.ofChange fnExactExpungeFolderSpec)) fnExactExpungeFolderCard

/-- THE TIED CARD OF 'laws.FnExactRestoreFolder'. -/
def fnExactRestoreFolderCard : Claim7 := { stood := { row := fnExactRestoreFolderRow, standIns := [], harness := (true, "2549c5bfa5cccf43c7fb2bb721d12b326deb76309f39999121f8977acec6d512"), looks := true }, kinds := [], alts := [], laidByText := true, laidKinds := [.data, .data, .data, .data, .sentinel, .sentinel, .pinned], laidTests := true, laidLooks := .later }
def FnExactRestoreFolderCardSaid : Prop := Claim7.holds Tryz.pinned (.plain (OpenSpec.ofChange fnExactRestoreFolderSpec)) fnExactRestoreFolderCard

/-- THE TIED CARD OF 'laws.FnExactRestoreUser'. -/
def fnExactRestoreUserCard : Claim7 := { stood := { row := fnExactRestoreUserRow, standIns := [], harness := (true, "2549c5bfa5cccf43c7fb2bb721d12b326deb76309f39999121f8977acec6d512"), looks := true }, kinds := [], alts := [], laidByText := true, laidKinds := [.data, .data, .data, .data, .sentinel, .sentinel, .pinned], laidTests := true, laidLooks := .later }
def FnExactRestoreUserCardSaid : Prop := Claim7.holds Tryz.pinned (.plain (OpenSpec.ofChange fnExactRestoreUserSpec)) fnExactRestoreUserCard

/-- THE SECOND FORM's CARD OF 'laws.FnExactRenameFolder'. -/
def fnExactRenameFolderUptoCard : Claim7 := { stood := { row := fnExactRenameFolderUptoRow, standIns := [], harness := (true, "2549c5bfa5cccf43c7fb2bb721d12b326deb76309f39999121f8977acec6d512"), looks := true }, kinds := [], alts := [], laidByText := true, laidKinds := [.data, .data, .data, .data, .sentinel, .sentinel, .pinned], laidTests := true, laidLooks := .later }
def FnExactRenameFolderUptoCardSaid : Prop := Claim7.holds Tryz.pinned (.plain (OpenSpec.upto fnExactRenameFolderSpec)) fnExactRenameFolderUptoCard

/-- THE SECOND FORM's CARD OF 'laws.FnExactExpungeFolder'. -/
def fnExactExpungeFolderUptoCard : Claim7 := { stood := { row := fnExactExpungeFolderUptoRow, standIns := [], harness := (true, "2549c5bfa5cccf43c7fb2bb721d12b326deb76309f39999121f8977acec6d512"), looks := true }, kinds := [], alts := [], laidByText := true, laidKinds := [.data, .data, .data, .data, .sentinel, .sentinel, .pinned], laidTests := true, laidLooks := .later }
def FnExactExpungeFolderUptoCardSaid : Prop := Claim7.holds Tryz.pinned (.plain (OpenSpec.upto fnExactExpungeFolderSpec)) fnExactExpungeFolderUptoCard

/-- THE SECOND FORM's CARD OF 'laws.FnExactRestoreFolder'. -/
def fnExactRestoreFolderUptoCard : Claim7 := { stood := { row := fnExactRestoreFolderUptoRow, standIns := [], harness := (true, "2549c5bfa5cccf43c7fb2bb721d12b326deb76309f39999121f8977acec6d512"), looks := true }, kinds := [], alts := [], laidByText := true, laidKinds := [.data, .data, .data, .data, .sentinel, .sentinel, .pinned], laidTests := true, laidLooks := .later }
def FnExactRestoreFolderUptoCardSaid : Prop := Claim7.holds Tryz.pinned (.plain (OpenSpec.upto fnExactRestoreFolderSpec)) fnExactRestoreFolderUptoCard

/-- THE SECOND FORM's CARD OF 'laws.FnExactRestoreUser'. -/
def fnExactRestoreUserUptoCard : Claim7 := { stood := { row := fnExactRestoreUserUptoRow, standIns := [], harness := (true, "2549c5bfa5cccf43c7fb2bb721d12b326deb76309f39999121f8977acec6d512"), looks := true }, kinds := [], alts := [], laidByText := true, laidKinds := [.data, .data, .data, .data, .sentinel, .sentinel, .pinned], laidTests := true, laidLooks := .later }
def FnExactRestoreUserUptoCardSaid : Prop := Claim7.holds Tryz.pinned (.plain (OpenSpec.upto fnExactRestoreUserSpec)) fnExactRestoreUserUptoCard
end Rows
end Go.Proofs.YtbpgncgmolpkiaaGreatDoor
