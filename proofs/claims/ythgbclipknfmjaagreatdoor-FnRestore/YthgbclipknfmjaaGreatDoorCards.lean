/-
  DERIVED. GIVEN WITH THE SEED: THE CARDS: each row of YthgbclipknfmjaaGreatDoorRows.lean that lists a variable, with what it lists TIED to the program's text (the seventh form; the later family's looks); each row that meets fmt, with fmt's text TOLD by the authors' own Lean function (tested against real Go, not proved from fmt's source: count such statements apart). THE CARD IS WHAT COUNTS. Prove the row's statement (the work); the ties are given (YthgbclipknfmjaaGreatDoorTie.lean); close each card by the builder's one call (the guide's Derived/Test/ToyasCard.lean, 'card_holds'). Laid BY PROGRAM, IN A SANDBOX (cutbox-door.mjs). By AI agents, Wed Nov 11 2026. No macro, syntax, notation, axiom, sorry.
-/
import Derived.Test.YthgbclipknfmjaaGreatDoorRows
import GoSem.ClaimSeven
namespace Go.Proofs.YthgbclipknfmjaaGreatDoor
namespace Rows

/-- THE TIED CARD OF 'laws.FnFlags'. -/
def fnFlagsCard : Claim7 := { stood := { row := fnFlagsRow, standIns := [], harness := (true, "e19011599295955627f46d463e590926803582cb68d04c5513c60ba2aa7f8608"), looks := true }, kinds := [], alts := [], laidByText := true, laidKinds := [.data, .data, .data, .data, .sentinel, .sentinel, .pinned], laidTests := true, laidLooks := .later }
def FnFlagsCardSaid : Prop := Claim7.holds Tryz.pinned (.plain (OpenSpec.ofChange fnFlagsSpec)) fnFlagsCard

/-- THE TIED CARD OF 'laws.FnRestore'. -/
def fnRestoreCard : Claim7 := { stood := { row := fnRestoreRow, standIns := [], harness := (true, "e19011599295955627f46d463e590926803582cb68d04c5513c60ba2aa7f8608"), looks := true }, kinds := [], alts := [], laidByText := true, laidKinds := [.data, .data, .data, .data, .sentinel, .sentinel, .pinned], laidTests := true, laidLooks := .later }
def FnRestoreCardSaid : Prop := Claim7.holds Tryz.pinned (.plain (OpenSpec.ofChange fnRestoreSpec)) fnRestoreCard

/-- THE TIED CARD OF 'laws.FnRestoreUser'. -/
def fnRestoreUserCard : Claim7 := { stood := { row := fnRestoreUserRow, standIns := [], harness := (true, "e19011599295955627f46d463e590926803582cb68d04c5513c60ba2aa7f8608"), looks := true }, kinds := [], alts := [], laidByText := true, laidKinds := [.data, .data, .data, .data, .sentinel, .sentinel, .pinned], laidTests := true, laidLooks := .later }
def FnRestoreUserCardSaid : Prop := Claim7.holds Tryz.pinned (.plain (OpenSpec.ofChange fnRestoreUserSpec)) fnRestoreUserCard

/-- THE TIED CARD OF 'laws.FnExactValidityRises'. -/
def fnExactValidityRisesCard : Claim7 := { stood := { row := fnExactValidityRisesRow, standIns := [], harness := (true, "e19011599295955627f46d463e590926803582cb68d04c5513c60ba2aa7f8608"), looks := true }, kinds := [], alts := [], laidByText := true, laidKinds := [.data, .data, .data, .data, .sentinel, .sentinel, .pinned], laidTests := true, laidLooks := .later }
def FnExactValidityRisesCardSaid : Prop := Claim7.holds Tryz.pinned (.plain (OpenSpec.ofChange fnExactValidityRisesSpec)) fnExactValidityRisesCard

/-- THE SECOND FORM's CARD OF 'laws.FnFlags'. -/
def fnFlagsUptoCard : Claim7 := { stood := { row := fnFlagsUptoRow, standIns := [], harness := (true, "e19011599295955627f46d463e590926803582cb68d04c5513c60ba2aa7f8608"), looks := true }, kinds := [], alts := [], laidByText := true, laidKinds := [.data, .data, .data, .data, .sentinel, .sentinel, .pinned], laidTests := true, laidLooks := .later }
def FnFlagsUptoCardSaid : Prop := Claim7.holds Tryz.pinned (.plain (OpenSpec.upto fnFlagsSpec)) fnFlagsUptoCard

/-- THE SECOND FORM's CARD OF 'laws.FnRestore'. -/
def fnRestoreUptoCard : Claim7 := { stood := { row := fnRestoreUptoRow, standIns := [], harness := (true, "e19011599295955627f46d463e590926803582cb68d04c5513c60ba2aa7f8608"), looks := true }, kinds := [], alts := [], laidByText := true, laidKinds := [.data, .data, .data, .data, .sentinel, .sentinel, .pinned], laidTests := true, laidLooks := .later }
def FnRestoreUptoCardSaid : Prop := Claim7.holds Tryz.pinned (.plain (OpenSpec.upto fnRestoreSpec)) fnRestoreUptoCard

/-- THE SECOND FORM's CARD OF 'laws.FnRestoreUser'. -/
def fnRestoreUserUptoCard : Claim7 := { stood := { row := fnRestoreUserUptoRow, standIns := [], harness := (true, "e19011599295955627f46d463e590926803582cb68d04c5513c60ba2aa7f8608"), looks := true }, kinds := [], alts := [], laidByText := true, laidKinds := [.data, .data, .data, .data, .sentinel, .sentinel, .pinned], laidTests := true, laidLooks := .later }
def FnRestoreUserUptoCardSaid : Prop := Claim7.holds Tryz.pinned (.plain (OpenSpec.upto fnRestoreUserSpec)) fnRestoreUserUptoCard

/-- THE SECOND FORM's CARD OF 'laws.FnExactValidityRises'. -/
def fnExactValidityRisesUptoCard : Claim7 := { stood := { row := fnExactValidityRisesUptoRow, standIns := [], harness := (true, "e19011599295955627f46d463e590926803582cb68d04c5513c60ba2aa7f8608"), looks := true }, kinds := [], alts := [], laidByText := true, laidKinds := [.data, .data, .data, .data, .sentinel, .sentinel, .pinned], laidTests := true, laidLooks := .later }
def FnExactValidityRisesUptoCardSaid : Prop := Claim7.holds Tryz.pinned (.plain (OpenSpec.upto fnExactValidityRisesSpec)) fnExactValidityRisesUptoCard
end Rows
end Go.Proofs.YthgbclipknfmjaaGreatDoor
