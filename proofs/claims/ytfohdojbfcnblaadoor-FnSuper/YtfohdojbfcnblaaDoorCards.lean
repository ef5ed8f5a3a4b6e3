/-
  DERIVED. GIVEN WITH THE SEED: THE CARDS: each row of YtfohdojbfcnblaaDoorRows.lean that lists a variable, with what it lists TIED to the program's text (the seventh form; the later family's looks); each row that meets fmt, with fmt's text TOLD by the authors' own Lean function (tested against real Go, not proved from fmt's source: count such statements apart). THE CARD IS WHAT COUNTS. Prove the row's statement (the work); the ties are given (YtfohdojbfcnblaaDoorTie.lean); close each card by the builder's one call (the guide's Derived/Test/ToyasCard.lean, 'card_holds'). Laid BY PROGRAM, IN A SANDBOX (cutbox-door.mjs). By AI agents, Wed Nov 11 2026. No macro, syntax, notation, axiom, sorry.
-/
import Derived.Test.YtfohdojbfcnblaaDoorRows
import GoSem.ClaimSeven
namespace Go.Proofs.YtfohdojbfcnblaaDoor
namespace Rows

/-- THE TIED CARD OF 'laws.FnNode'. -/
def fnNodeCard : Claim7 := { stood := { row := fnNodeRow, standIns := [], harness := (true, "4dc31f7eca908ef0c3090dc12331ec055969c98391a97c5792f162debce611c9"), looks := false }, kinds := [], alts := [], laidByText := true, laidKinds := [.data], laidTests := true, laidLooks := .later }
def FnNodeCardSaid : Prop := Claim7.holds Tryd.pinned (.plain (OpenSpec.ofChange fnNodeSpec)) fnNodeCard

/-- THE TIED CARD OF 'laws.FnSuper'. -/
def fnSuperCard : Claim7 := { stood := { row := fnSuperRow, standIns := [], harness := (true, "4dc31f7eca908ef0c3090dc12331ec055969c98391a97c5792f162debce611c9"), looks := false }, kinds := [], alts := [], laidByText := true, laidKinds := [.data], laidTests := true, laidLooks := .later }
def FnSuperCardSaid : Prop := Claim7.holds Tryd.pinned (.plain (OpenSpec.ofChange fnSuperSpec)) fnSuperCard

/-- THE TIED CARD OF 'laws.FnExactReadNode'. -/
def fnExactReadNodeCard : Claim7 := { stood := { row := fnExactReadNodeRow, standIns := [], harness := (true, "4dc31f7eca908ef0c3090dc12331ec055969c98391a97c5792f162debce611c9"), looks := false }, kinds := [], alts := [], laidByText := true, laidKinds := [.data], laidTests := true, laidLooks := .later }
def FnExactReadNodeCardSaid : Prop := Claim7.holds Tryd.pinned (.plain (OpenSpec.ofChange fnExactReadNodeSpec)) fnExactReadNodeCard

/-- THE TIED CARD OF 'laws.FnExactReadSuper'. -/
def fnExactReadSuperCard : Claim7 := { stood := { row := fnExactReadSuperRow, standIns := [], harness := (true, "4dc31f7eca908ef0c3090dc12331ec055969c98391a97c5792f162debce611c9"), looks := false }, kinds := [], alts := [], laidByText := true, laidKinds := [.data], laidTests := true, laidLooks := .later }
def FnExactReadSuperCardSaid : Prop := Claim7.holds Tryd.pinned (.plain (OpenSpec.ofChange fnExactReadSuperSpec)) fnExactReadSuperCard

/-- THE TIED CARD OF 'laws.FnExactNewStore'. -/
def fnExactNewStoreCard : Claim7 := { stood := { row := fnExactNewStoreRow, standIns := [], harness := (true, "4dc31f7eca908ef0c3090dc12331ec055969c98391a97c5792f162debce611c9"), looks := false }, kinds := [], alts := [], laidByText := true, laidKinds := [.data], laidTests := true, laidLooks := .later }
def FnExactNewStoreCardSaid : Prop := Claim7.holds Tryd.pinned (.plain (OpenSpec.ofChange fnExactNewStoreSpec)) fnExactNewStoreCard

/-- THE SECOND FORM's CARD OF 'laws.FnNode'. -/
def fnNodeUptoCard : Claim7 := { stood := { row := fnNodeUptoRow, standIns := [], harness := (true, "4dc31f7eca908ef0c3090dc12331ec055969c98391a97c5792f162debce611c9"), looks := false }, kinds := [], alts := [], laidByText := true, laidKinds := [.data], laidTests := true, laidLooks := .later }
def FnNodeUptoCardSaid : Prop := Claim7.holds Tryd.pinned (.plain (OpenSpec.upto fnNodeSpec)) fnNodeUptoCard

/-- THE SECOND FORM's CARD OF 'laws.FnSuper'. -/
def fnSuperUptoCard : Claim7 := { stood := { row := fnSuperUptoRow, standIns := [], harness := (true, "4dc31f7eca908ef0c3090dc12331ec055969c98391a97c5792f162debce611c9"), looks := false }, kinds := [], alts := [], laidByText := true, laidKinds := [.data], laidTests := true, laidLooks := .later }
def FnSuperUptoCardSaid : Prop := Claim7.holds Tryd.pinned (.plain (OpenSpec.upto fnSuperSpec)) fnSuperUptoCard

/-- THE SECOND FORM's CARD OF 'laws.FnExactReadNode'. -/
def fnExactReadNodeUptoCard : Claim7 := { stood := { row := fnExactReadNodeUptoRow, standIns := [], harness := (true, "4dc31f7eca908ef0c3090dc12331ec055969c98391a97c5792f162debce611c9"), looks := false }, kinds := [], alts := [], laidByText := true, laidKinds := [.data], laidTests := true, laidLooks := .later }
def FnExactReadNodeUptoCardSaid : Prop := Claim7.holds Tryd.pinned (.plain (OpenSpec.upto fnExactReadNodeSpec)) fnExactReadNodeUptoCard

/-- THE SECOND FORM's CARD OF 'laws.FnExactReadSuper'. -/
def fnExactReadSuperUptoCard : Claim7 := { stood := { row := fnExactReadSuperUptoRow, standIns := [], harness := (true, "4dc31f7eca908ef0c3090dc12331ec055969c98391a97c5792f162debce611c9"), looks := false }, kinds := [], alts := [], laidByText := true, laidKinds := [.data], laidTests := true, laidLooks := .later }
def FnExactReadSuperUptoCardSaid : Prop := Claim7.holds Tryd.pinned (.plain (OpenSpec.upto fnExactReadSuperSpec)) fnExactReadSuperUptoCard

/-- THE SECOND FORM's CARD OF 'laws.FnExactNewStore'. -/
def fnExactNewStoreUptoCard : Claim7 := { stood := { row := fnExactNewStoreUptoRow, standIns := [], harness := (true, "4dc31f7eca908ef0c3090dc12331ec055969c98391a97c5792f162debce611c9"), looks := false }, kinds := [], alts := [], laidByText := true, laidKinds := [.data], laidTests := true, laidLooks := .later }
def FnExactNewStoreUptoCardSaid : Prop := Claim7.holds Tryd.pinned (.plain (OpenSpec.upto fnExactNewStoreSpec)) fnExactNewStoreUptoCard
end Rows
end Go.Proofs.YtfohdojbfcnblaaDoor
