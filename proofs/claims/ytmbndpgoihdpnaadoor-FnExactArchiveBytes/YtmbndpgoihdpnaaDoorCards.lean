/-
  DERIVED. GIVEN WITH THE SEED: THE CARDS: each row of YtmbndpgoihdpnaaDoorRows.lean that lists a variable, with what it lists TIED to the program's text (the seventh form; the later family's looks); each row that meets fmt, with fmt's text TOLD by the authors' own Lean function (tested against real Go, not proved from fmt's source: count such statements apart). THE CARD IS WHAT COUNTS. Prove the row's statement (the work); the ties are given (YtmbndpgoihdpnaaDoorTie.lean); close each card by the builder's one call (the guide's Derived/Test/ToyasCard.lean, 'card_holds'). Laid BY PROGRAM, IN A SANDBOX (cutbox-door.mjs). By AI agents, Wed Nov 11 2026. No macro, syntax, notation, axiom, sorry.
-/
import Derived.Test.YtmbndpgoihdpnaaDoorRows
import GoSem.ClaimSeven
namespace Go.Proofs.YtmbndpgoihdpnaaDoor
namespace Rows

/-- THE TIED CARD OF 'laws.FnExactArchiveBytes'. -/
def fnExactArchiveBytesCard : Claim7 := { stood := { row := fnExactArchiveBytesRow, standIns := [], harness := (true, "0d28f6c47f94b2c874195a4a7af6a35be429fef99f1830b0cebe9e0ff4b62122"), looks := true }, kinds := [], alts := [], laidByText := true, laidKinds := [.data], laidTests := true, laidLooks := .later }
def FnExactArchiveBytesCardSaid : Prop := Claim7.holds Tryd.pinned (.plain (OpenSpec.ofChange fnExactArchiveBytesSpec)) fnExactArchiveBytesCard

/-- THE TIED CARD OF 'laws.FnExactReadBackup'. -/
def fnExactReadBackupCard : Claim7 := { stood := { row := fnExactReadBackupRow, standIns := [], harness := (true, "0d28f6c47f94b2c874195a4a7af6a35be429fef99f1830b0cebe9e0ff4b62122"), looks := true }, kinds := [], alts := [], laidByText := true, laidKinds := [.handle, .data, .sentinel, .sentinel], laidTests := true, laidLooks := .later }
def FnExactReadBackupCardSaid : Prop := Claim7.holds Tryd.pinned (.plain (OpenSpec.ofChange fnExactReadBackupSpec)) fnExactReadBackupCard

/-- THE TIED CARD OF 'laws.FnBackup'. -/
def fnBackupCard : Claim7 := { stood := { row := fnBackupRow, standIns := [], harness := (true, "0d28f6c47f94b2c874195a4a7af6a35be429fef99f1830b0cebe9e0ff4b62122"), looks := true }, kinds := [], alts := [], laidByText := true, laidKinds := [.handle, .data, .sentinel, .sentinel], laidTests := true, laidLooks := .later }
def FnBackupCardSaid : Prop := Claim7.holds Tryd.pinned (.plain (OpenSpec.ofChange fnBackupSpec)) fnBackupCard

/-- THE SECOND FORM's CARD OF 'laws.FnExactArchiveBytes'. -/
def fnExactArchiveBytesUptoCard : Claim7 := { stood := { row := fnExactArchiveBytesUptoRow, standIns := [], harness := (true, "0d28f6c47f94b2c874195a4a7af6a35be429fef99f1830b0cebe9e0ff4b62122"), looks := true }, kinds := [], alts := [], laidByText := true, laidKinds := [.data], laidTests := true, laidLooks := .later }
def FnExactArchiveBytesUptoCardSaid : Prop := Claim7.holds Tryd.pinned (.plain (OpenSpec.upto fnExactArchiveBytesSpec)) fnExactArchiveBytesUptoCard

/-- THE SECOND FORM's CARD OF 'laws.FnExactReadBackup'. -/
def fnExactReadBackupUptoCard : Claim7 := { stood := { row := fnExactReadBackupUptoRow, standIns := [], harness := (true, "0d28f6c47f94b2c874195a4a7af6a35be429fef99f1830b0cebe9e0ff4b62122"), looks := true }, kinds := [], alts := [], laidByText := true, laidKinds := [.handle, .data, .sentinel, .sentinel], laidTests := true, laidLooks := .later }
def FnExactReadBackupUptoCardSaid : Prop := Claim7.holds Tryd.pinned (.plain (OpenSpec.upto fnExactReadBackupSpec)) fnExactReadBackupUptoCard

/-- THE SECOND FORM's CARD OF 'laws.FnBackup'. -/
def fnBackupUptoCard : Claim7 := { stood := { row := fnBackupUptoRow, standIns := [], harness := (true, "0d28f6c47f94b2c874195a4a7af6a35be429fef99f1830b0cebe9e0ff4b62122"), looks := true }, kinds := [], alts := [], laidByText := true, laidKinds := [.handle, .data, .sentinel, .sentinel], laidTests := true, laidLooks := .later }
def FnBackupUptoCardSaid : Prop := Claim7.holds Tryd.pinned (.plain (OpenSpec.upto fnBackupSpec)) fnBackupUptoCard
end Rows
end Go.Proofs.YtmbndpgoihdpnaaDoor
