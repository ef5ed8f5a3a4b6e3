/-
  DERIVED. GIVEN WITH THE SEED: THE CARDS: each row of YtkimjnjpfjeldaaDoorRows.lean that lists a variable, with what it lists TIED to the program's text (the seventh form; the later family's looks); each row that meets fmt, with fmt's text TOLD by the authors' own Lean function (tested against real Go, not proved from fmt's source: count such statements apart). THE CARD IS WHAT COUNTS. Prove the row's statement (the work); the ties are given (YtkimjnjpfjeldaaDoorTie.lean); close each card by the builder's one call (the guide's Derived/Test/ToyasCard.lean, 'card_holds'). Laid BY PROGRAM, IN A SANDBOX (cutbox-door.mjs). By AI agents, Wed Nov 11 2026. No macro, syntax, notation, axiom, sorry.
-/
import Derived.Test.YtkimjnjpfjeldaaDoorRows
import GoSem.ClaimSeven
namespace Go.Proofs.YtkimjnjpfjeldaaDoor
namespace Rows

/-- THE TIED CARD OF 'laws.FnExactMakeBackup'. -/
def fnExactMakeBackupCard : Claim7 := { stood := { row := fnExactMakeBackupRow, standIns := [], harness := (true, "bb6728fe510900a6b33d1b5aad426348b26da03d323655311941dae7e1e591c3"), looks := false }, kinds := [], alts := [], laidByText := true, laidKinds := [.data], laidTests := true, laidLooks := .later }
def FnExactMakeBackupCardSaid : Prop := Claim7.holds Tryd.pinned (.plain (OpenSpec.ofChange fnExactMakeBackupSpec)) fnExactMakeBackupCard

/-- THE SECOND FORM's CARD OF 'laws.FnExactMakeBackup'. -/
def fnExactMakeBackupUptoCard : Claim7 := { stood := { row := fnExactMakeBackupUptoRow, standIns := [], harness := (true, "bb6728fe510900a6b33d1b5aad426348b26da03d323655311941dae7e1e591c3"), looks := false }, kinds := [], alts := [], laidByText := true, laidKinds := [.data], laidTests := true, laidLooks := .later }
def FnExactMakeBackupUptoCardSaid : Prop := Claim7.holds Tryd.pinned (.plain (OpenSpec.upto fnExactMakeBackupSpec)) fnExactMakeBackupUptoCard
end Rows
end Go.Proofs.YtkimjnjpfjeldaaDoor
