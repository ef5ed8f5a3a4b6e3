/-
  DERIVED. GIVEN WITH THE SEED: THE CARDS: each row of YtnejklppbjkekaaDoorRows.lean that lists a variable, with what it lists TIED to the program's text (the seventh form; the later family's looks); each row that meets fmt, with fmt's text TOLD by the authors' own Lean function (tested against real Go, not proved from fmt's source: count such statements apart). THE CARD IS WHAT COUNTS. Prove the row's statement (the work); the ties are given (YtnejklppbjkekaaDoorTie.lean); close each card by the builder's one call (the guide's Derived/Test/ToyasCard.lean, 'card_holds'). Laid BY PROGRAM, IN A SANDBOX (cutbox-door.mjs). By AI agents, Wed Nov 11 2026. No macro, syntax, notation, axiom, sorry.
-/
import Derived.Test.YtnejklppbjkekaaDoorRows
import GoSem.ClaimSeven
namespace Go.Proofs.YtnejklppbjkekaaDoor
namespace Rows

/-- THE TIED CARD OF 'laws.FnNode'. -/
def fnNodeCard : Claim7 := { stood := { row := fnNodeRow, standIns := [], harness := (true, "31f3557b33063c76a556977ef82d77564d5ae467f2f731c2eba773a3d3679c1f"), looks := false }, kinds := [], alts := [], laidByText := true, laidKinds := [.data], laidTests := true, laidLooks := .later }
def FnNodeCardSaid : Prop := Claim7.holds Tryd.pinned (.plain (OpenSpec.ofChange fnNodeSpec)) fnNodeCard

/-- THE TIED CARD OF 'laws.FnSuper'. -/
def fnSuperCard : Claim7 := { stood := { row := fnSuperRow, standIns := [], harness := (true, "31f3557b33063c76a556977ef82d77564d5ae467f2f731c2eba773a3d3679c1f"), looks := false }, kinds := [], alts := [], laidByText := true, laidKinds := [.data], laidTests := true, laidLooks := .later }
def FnSuperCardSaid : Prop := Claim7.holds Tryd.pinned (.plain (OpenSpec.ofChange fnSuperSpec)) fnSuperCard

/-- THE TIED CARD OF 'laws.FnExactNodeBytes'. -/
def fnExactNodeBytesCard : Claim7 := { stood := { row := fnExactNodeBytesRow, standIns := [], harness := (true, "31f3557b33063c76a556977ef82d77564d5ae467f2f731c2eba773a3d3679c1f"), looks := false }, kinds := [], alts := [], laidByText := true, laidKinds := [.data], laidTests := true, laidLooks := .later }
def FnExactNodeBytesCardSaid : Prop := Claim7.holds Tryd.pinned (.plain (OpenSpec.ofChange fnExactNodeBytesSpec)) fnExactNodeBytesCard

/-- THE TIED CARD OF 'laws.FnExactReadNode'. -/
def fnExactReadNodeCard : Claim7 := { stood := { row := fnExactReadNodeRow, standIns := [], harness := (true, "31f3557b33063c76a556977ef82d77564d5ae467f2f731c2eba773a3d3679c1f"), looks := false }, kinds := [], alts := [], laidByText := true, laidKinds := [.data], laidTests := true, laidLooks := .later }
def FnExactReadNodeCardSaid : Prop := Claim7.holds Tryd.pinned (.plain (OpenSpec.ofChange fnExactReadNodeSpec)) fnExactReadNodeCard

/-- THE TIED CARD OF 'laws.FnExactSuperBytes'. -/
def fnExactSuperBytesCard : Claim7 := { stood := { row := fnExactSuperBytesRow, standIns := [], harness := (true, "31f3557b33063c76a556977ef82d77564d5ae467f2f731c2eba773a3d3679c1f"), looks := false }, kinds := [], alts := [], laidByText := true, laidKinds := [.data], laidTests := true, laidLooks := .later }
def FnExactSuperBytesCardSaid : Prop := Claim7.holds Tryd.pinned (.plain (OpenSpec.ofChange fnExactSuperBytesSpec)) fnExactSuperBytesCard

/-- THE TIED CARD OF 'laws.FnExactReadSuper'. -/
def fnExactReadSuperCard : Claim7 := { stood := { row := fnExactReadSuperRow, standIns := [], harness := (true, "31f3557b33063c76a556977ef82d77564d5ae467f2f731c2eba773a3d3679c1f"), looks := false }, kinds := [], alts := [], laidByText := true, laidKinds := [.data], laidTests := true, laidLooks := .later }
def FnExactReadSuperCardSaid : Prop := Claim7.holds Tryd.pinned (.plain (OpenSpec.ofChange fnExactReadSuperSpec)) fnExactReadSuperCard

/-- THE TIED CARD OF 'laws.FnExactBackupBytes'. -/
def fnExactBackupBytesCard : Claim7 := { stood := { row := fnExactBackupBytesRow, standIns := [], harness := (true, "31f3557b33063c76a556977ef82d77564d5ae467f2f731c2eba773a3d3679c1f"), looks := false }, kinds := [], alts := [], laidByText := true, laidKinds := [.data], laidTests := true, laidLooks := .later }
def FnExactBackupBytesCardSaid : Prop := Claim7.holds Tryd.pinned (.plain (OpenSpec.ofChange fnExactBackupBytesSpec)) fnExactBackupBytesCard

/-- THE TIED CARD OF 'laws.FnExactPairsSum'. -/
def fnExactPairsSumCard : Claim7 := { stood := { row := fnExactPairsSumRow, standIns := [], harness := (true, "31f3557b33063c76a556977ef82d77564d5ae467f2f731c2eba773a3d3679c1f"), looks := false }, kinds := [], alts := [], laidByText := true, laidKinds := [.data], laidTests := true, laidLooks := .later }
def FnExactPairsSumCardSaid : Prop := Claim7.holds Tryd.pinned (.plain (OpenSpec.ofChange fnExactPairsSumSpec)) fnExactPairsSumCard

/-- THE SECOND FORM's CARD OF 'laws.FnNode'. -/
def fnNodeUptoCard : Claim7 := { stood := { row := fnNodeUptoRow, standIns := [], harness := (true, "31f3557b33063c76a556977ef82d77564d5ae467f2f731c2eba773a3d3679c1f"), looks := false }, kinds := [], alts := [], laidByText := true, laidKinds := [.data], laidTests := true, laidLooks := .later }
def FnNodeUptoCardSaid : Prop := Claim7.holds Tryd.pinned (.plain (OpenSpec.upto fnNodeSpec)) fnNodeUptoCard

/-- THE SECOND FORM's CARD OF 'laws.FnSuper'. -/
def fnSuperUptoCard : Claim7 := { stood := { row := fnSuperUptoRow, standIns := [], harness := (true, "31f3557b33063c76a556977ef82d77564d5ae467f2f731c2eba773a3d3679c1f"), looks := false }, kinds := [], alts := [], laidByText := true, laidKinds := [.data], laidTests := true, laidLooks := .later }
def FnSuperUptoCardSaid : Prop := Claim7.holds Tryd.pinned (.plain (OpenSpec.upto fnSuperSpec)) fnSuperUptoCard

/-- THE SECOND FORM's CARD OF 'laws.FnExactNodeBytes'. -/
def fnExactNodeBytesUptoCard : Claim7 := { stood := { row := fnExactNodeBytesUptoRow, standIns := [], harness := (true, "31f3557b33063c76a556977ef82d77564d5ae467f2f731c2eba773a3d3679c1f"), looks := false }, kinds := [], alts := [], laidByText := true, laidKinds := [.data], laidTests := true, laidLooks := .later }
def FnExactNodeBytesUptoCardSaid : Prop := Claim7.holds Tryd.pinned (.plain (OpenSpec.upto fnExactNodeBytesSpec)) fnExactNodeBytesUptoCard

/-- THE SECOND FORM's CARD OF 'laws.FnExactReadNode'. -/
def fnExactReadNodeUptoCard : Claim7 := { stood := { row := fnExactReadNodeUptoRow, standIns := [], harness := (true, "31f3557b33063c76a556977ef82d77564d5ae467f2f731c2eba773a3d3679c1f"), looks := false }, kinds := [], alts := [], laidByText := true, laidKinds := [.data], laidTests := true, laidLooks := .later }
def FnExactReadNodeUptoCardSaid : Prop := Claim7.holds Tryd.pinned (.plain (OpenSpec.upto fnExactReadNodeSpec)) fnExactReadNodeUptoCard

/-- THE SECOND FORM's CARD OF 'laws.FnExactSuperBytes'. -/
def fnExactSuperBytesUptoCard : Claim7 := { stood := { row := fnExactSuperBytesUptoRow, standIns := [], harness := (true, "31f3557b33063c76a556977ef82d77564d5ae467f2f731c2eba773a3d3679c1f"), looks := false }, kinds := [], alts := [], laidByText := true, laidKinds := [.data], laidTests := true, laidLooks := .later }
def FnExactSuperBytesUptoCardSaid : Prop := Claim7.holds Tryd.pinned (.plain (OpenSpec.upto fnExactSuperBytesSpec)) fnExactSuperBytesUptoCard

/-- THE SECOND FORM's CARD OF 'laws.FnExactReadSuper'. -/
def fnExactReadSuperUptoCard : Claim7 := { stood := { row := fnExactReadSuperUptoRow, standIns := [], harness := (true, "31f3557b33063c76a556977ef82d77564d5ae467f2f731c2eba773a3d3679c1f"), looks := false }, kinds := [], alts := [], laidByText := true, laidKinds := [.data], laidTests := true, laidLooks := .later }
def FnExactReadSuperUptoCardSaid : Prop := Claim7.holds Tryd.pinned (.plain (OpenSpec.upto fnExactReadSuperSpec)) fnExactReadSuperUptoCard

/-- THE SECOND FORM's CARD OF 'laws.FnExactBackupBytes'. -/
def fnExactBackupBytesUptoCard : Claim7 := { stood := { row := fnExactBackupBytesUptoRow, standIns := [], harness := (true, "31f3557b33063c76a556977ef82d77564d5ae467f2f731c2eba773a3d3679c1f"), looks := false }, kinds := [], alts := [], laidByText := true, laidKinds := [.data], laidTests := true, laidLooks := .later }
def FnExactBackupBytesUptoCardSaid : Prop := Claim7.holds Tryd.pinned (.plain (OpenSpec.upto fnExactBackupBytesSpec)) fnExactBackupBytesUptoCard

/-- THE SECOND FORM's CARD OF 'laws.FnExactPairsSum'. -/
def fnExactPairsSumUptoCard : Claim7 := { stood := { row := fnExactPairsSumUptoRow, standIns := [], harness := (true, "31f3557b33063c76a556977ef82d77564d5ae467f2f731c2eba773a3d3679c1f"), looks := false }, kinds := [], alts := [], laidByText := true, laidKinds := [.data], laidTests := true, laidLooks := .later }
def FnExactPairsSumUptoCardSaid : Prop := Claim7.holds Tryd.pinned (.plain (OpenSpec.upto fnExactPairsSumSpec)) fnExactPairsSumUptoCard
end Rows
end Go.Proofs.YtnejklppbjkekaaDoor
