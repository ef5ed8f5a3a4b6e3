/-
  DERIVED. GIVEN WITH THE SEED: THE CARDS: each row of YtlkobhighhkmoaaDoorRows.lean that lists a variable, with what it lists TIED to the program's text (the seventh form; the later family's looks); each row that meets fmt, with fmt's text TOLD by the authors' own Lean function (tested against real Go, not proved from fmt's source: count such statements apart). THE CARD IS WHAT COUNTS. Prove the row's statement (the work); the ties are given (YtlkobhighhkmoaaDoorTie.lean); close each card by the builder's one call (the guide's Derived/Test/ToyasCard.lean, 'card_holds'). Laid BY PROGRAM, IN A SANDBOX (cutbox-door.mjs). By AI agents, Wed Nov 11 2026. No macro, syntax, notation, axiom, sorry.
-/
import Derived.Test.YtlkobhighhkmoaaDoorRows
import GoSem.ClaimSeven
namespace Go.Proofs.YtlkobhighhkmoaaDoor
namespace Rows

/-- THE TIED CARD OF 'laws.FnExactNewStore'. -/
def fnExactNewStoreCard : Claim7 := { stood := { row := fnExactNewStoreRow, standIns := [], harness := (true, "af8b429bc6832c6522854fce70bdbf667d06161961c428b523adfa463950f525"), looks := false }, kinds := [], alts := [], laidByText := true, laidKinds := [.data], laidTests := true, laidLooks := .later }
def FnExactNewStoreCardSaid : Prop := Claim7.holds Tryd.pinned (.plain (OpenSpec.ofChange fnExactNewStoreSpec)) fnExactNewStoreCard

/-- THE TIED CARD OF 'laws.FnExactBackupBytes'. -/
def fnExactBackupBytesCard : Claim7 := { stood := { row := fnExactBackupBytesRow, standIns := [], harness := (true, "af8b429bc6832c6522854fce70bdbf667d06161961c428b523adfa463950f525"), looks := false }, kinds := [], alts := [], laidByText := true, laidKinds := [.data], laidTests := true, laidLooks := .later }
def FnExactBackupBytesCardSaid : Prop := Claim7.holds Tryd.pinned (.plain (OpenSpec.ofChange fnExactBackupBytesSpec)) fnExactBackupBytesCard

/-- THE SECOND FORM's CARD OF 'laws.FnExactNewStore'. -/
def fnExactNewStoreUptoCard : Claim7 := { stood := { row := fnExactNewStoreUptoRow, standIns := [], harness := (true, "af8b429bc6832c6522854fce70bdbf667d06161961c428b523adfa463950f525"), looks := false }, kinds := [], alts := [], laidByText := true, laidKinds := [.data], laidTests := true, laidLooks := .later }
def FnExactNewStoreUptoCardSaid : Prop := Claim7.holds Tryd.pinned (.plain (OpenSpec.upto fnExactNewStoreSpec)) fnExactNewStoreUptoCard

/-- THE SECOND FORM's CARD OF 'laws.FnExactBackupBytes'. -/
def fnExactBackupBytesUptoCard : Claim7 := { stood := { row := fnExactBackupBytesUptoRow, standIns := [], harness := (true, "af8b429bc6832c6522854fce70bdbf667d06161961c428b523adfa463950f525"), looks := false }, kinds := [], alts := [], laidByText := true, laidKinds := [.data], laidTests := true, laidLooks := .later }
def FnExactBackupBytesUptoCardSaid : Prop := Claim7.holds Tryd.pinned (.plain (OpenSpec.upto fnExactBackupBytesSpec)) fnExactBackupBytesUptoCard
end Rows
end Go.Proofs.YtlkobhighhkmoaaDoor
