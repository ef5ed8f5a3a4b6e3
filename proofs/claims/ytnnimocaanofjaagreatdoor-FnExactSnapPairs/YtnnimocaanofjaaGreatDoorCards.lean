/-
  DERIVED. GIVEN WITH THE SEED: THE CARDS: each row of YtnnimocaanofjaaGreatDoorRows.lean that lists a variable, with what it lists TIED to the program's text (the seventh form; the later family's looks); each row that meets fmt, with fmt's text TOLD by the authors' own Lean function (tested against real Go, not proved from fmt's source: count such statements apart). THE CARD IS WHAT COUNTS. Prove the row's statement (the work); the ties are given (YtnnimocaanofjaaGreatDoorTie.lean); close each card by the builder's one call (the guide's Derived/Test/ToyasCard.lean, 'card_holds'). Laid BY PROGRAM, IN A SANDBOX (cutbox-door.mjs). By AI agents, Wed Nov 11 2026. No macro, syntax, notation, axiom, sorry.
-/
import Derived.Test.YtnnimocaanofjaaGreatDoorRows
import GoSem.ClaimSeven
namespace Go.Proofs.YtnnimocaanofjaaGreatDoor
namespace Rows

/-- THE TIED CARD OF 'laws.FnExactStoreOK'. -/
def fnExactStoreOKCard : Claim7 := { stood := { row := fnExactStoreOKRow, standIns := [], harness := (true, "d711c6150f776282038f1806584dab63eccc2e77f4263164e45dba179491d430"), looks := false }, kinds := [], alts := [], laidByText := true, laidKinds := [.data], laidTests := true, laidLooks := .later }
def FnExactStoreOKCardSaid : Prop := Claim7.holds Tryz.pinned (.plain (OpenSpec.ofChange fnExactStoreOKSpec)) fnExactStoreOKCard

/-- THE TIED CARD OF 'laws.FnExactOpenStore'. -/
def fnExactOpenStoreCard : Claim7 := { stood := { row := fnExactOpenStoreRow, standIns := [], harness := (true, "d711c6150f776282038f1806584dab63eccc2e77f4263164e45dba179491d430"), looks := false }, kinds := [], alts := [], laidByText := true, laidKinds := [.data], laidTests := true, laidLooks := .later }
def FnExactOpenStoreCardSaid : Prop := Claim7.holds Tryz.pinned (.plain (OpenSpec.ofChange fnExactOpenStoreSpec)) fnExactOpenStoreCard

/-- THE TIED CARD OF 'laws.FnExactStorePairs'. -/
def fnExactStorePairsCard : Claim7 := { stood := { row := fnExactStorePairsRow, standIns := [], harness := (true, "d711c6150f776282038f1806584dab63eccc2e77f4263164e45dba179491d430"), looks := false }, kinds := [], alts := [], laidByText := true, laidKinds := [.data], laidTests := true, laidLooks := .later }
def FnExactStorePairsCardSaid : Prop := Claim7.holds Tryz.pinned (.plain (OpenSpec.ofChange fnExactStorePairsSpec)) fnExactStorePairsCard

/-- THE TIED CARD OF 'laws.FnExactFreePages'. -/
def fnExactFreePagesCard : Claim7 := { stood := { row := fnExactFreePagesRow, standIns := [], harness := (true, "d711c6150f776282038f1806584dab63eccc2e77f4263164e45dba179491d430"), looks := false }, kinds := [], alts := [], laidByText := true, laidKinds := [.data], laidTests := true, laidLooks := .later }
def FnExactFreePagesCardSaid : Prop := Claim7.holds Tryz.pinned (.plain (OpenSpec.ofChange fnExactFreePagesSpec)) fnExactFreePagesCard

/-- THE TIED CARD OF 'laws.FnExactSnapPairs'. -/
def fnExactSnapPairsCard : Claim7 := { stood := { row := fnExactSnapPairsRow, standIns := [], harness := (true, "d711c6150f776282038f1806584dab63eccc2e77f4263164e45dba179491d430"), looks := false }, kinds := [], alts := [], laidByText := true, laidKinds := [.data], laidTests := true, laidLooks := .later }
def FnExactSnapPairsCardSaid : Prop := Claim7.holds Tryz.pinned (.plain (OpenSpec.ofChange fnExactSnapPairsSpec)) fnExactSnapPairsCard

/-- THE SECOND FORM's CARD OF 'laws.FnExactStoreOK'. -/
def fnExactStoreOKUptoCard : Claim7 := { stood := { row := fnExactStoreOKUptoRow, standIns := [], harness := (true, "d711c6150f776282038f1806584dab63eccc2e77f4263164e45dba179491d430"), looks := false }, kinds := [], alts := [], laidByText := true, laidKinds := [.data], laidTests := true, laidLooks := .later }
def FnExactStoreOKUptoCardSaid : Prop := Claim7.holds Tryz.pinned (.plain (OpenSpec.upto fnExactStoreOKSpec)) fnExactStoreOKUptoCard

/-- THE SECOND FORM's CARD OF 'laws.FnExactOpenStore'. -/
def fnExactOpenStoreUptoCard : Claim7 := { stood := { row := fnExactOpenStoreUptoRow, standIns := [], harness := (true, "d711c6150f776282038f1806584dab63eccc2e77f4263164e45dba179491d430"), looks := false }, kinds := [], alts := [], laidByText := true, laidKinds := [.data], laidTests := true, laidLooks := .later }
def FnExactOpenStoreUptoCardSaid : Prop := Claim7.holds Tryz.pinned (.plain (OpenSpec.upto fnExactOpenStoreSpec)) fnExactOpenStoreUptoCard

/-- THE SECOND FORM's CARD OF 'laws.FnExactStorePairs'. -/
def fnExactStorePairsUptoCard : Claim7 := { stood := { row := fnExactStorePairsUptoRow, standIns := [], harness := (true, "d711c6150f776282038f1806584dab63eccc2e77f4263164e45dba179491d430"), looks := false }, kinds := [], alts := [], laidByText := true, laidKinds := [.data], laidTests := true, laidLooks := .later }
def FnExactStorePairsUptoCardSaid : Prop := Claim7.holds Tryz.pinned (.plain (OpenSpec.upto fnExactStorePairsSpec)) fnExactStorePairsUptoCard

/-- THE SECOND FORM's CARD OF 'laws.FnExactFreePages'. -/
def fnExactFreePagesUptoCard : Claim7 := { stood := { row := fnExactFreePagesUptoRow, standIns := [], harness := (true, "d711c6150f776282038f1806584dab63eccc2e77f4263164e45dba179491d430"), looks := false }, kinds := [], alts := [], laidByText := true, laidKinds := [.data], laidTests := true, laidLooks := .later }
def FnExactFreePagesUptoCardSaid : Prop := Claim7.holds Tryz.pinned (.plain (OpenSpec.upto fnExactFreePagesSpec)) fnExactFreePagesUptoCard

/-- THE SECOND FORM's CARD OF 'laws.FnExactSnapPairs'. -/
def fnExactSnapPairsUptoCard : Claim7 := { stood := { row := fnExactSnapPairsUptoRow, standIns := [], harness := (true, "d711c6150f776282038f1806584dab63eccc2e77f4263164e45dba179491d430"), looks := false }, kinds := [], alts := [], laidByText := true, laidKinds := [.data], laidTests := true, laidLooks := .later }
def FnExactSnapPairsUptoCardSaid : Prop := Claim7.holds Tryz.pinned (.plain (OpenSpec.upto fnExactSnapPairsSpec)) fnExactSnapPairsUptoCard
end Rows
end Go.Proofs.YtnnimocaanofjaaGreatDoor
