/-
  DERIVED. GIVEN WITH THE SEED: THE CARDS: each row of YtfbomjcjemcgeaaDoorRows.lean that lists a variable, with what it lists TIED to the program's text (the seventh form; the later family's looks); each row that meets fmt, with fmt's text TOLD by the authors' own Lean function (tested against real Go, not proved from fmt's source: count such statements apart). THE CARD IS WHAT COUNTS. Prove the row's statement (the work); the ties are given (YtfbomjcjemcgeaaDoorTie.lean); close each card by the builder's one call (the guide's Derived/Test/ToyasCard.lean, 'card_holds'). Laid BY PROGRAM, IN A SANDBOX (cutbox-door.mjs). By AI agents, Wed Nov 11 2026. No macro, syntax, notation, axiom, sorry.
-/
import Derived.Test.YtfbomjcjemcgeaaDoorRows
import GoSem.ClaimSeven
namespace Go.Proofs.YtfbomjcjemcgeaaDoor
namespace Rows

/-- THE TIED CARD OF 'laws.FnCheck'. -/
def fnCheckCard : Claim7 := { stood := { row := fnCheckRow, standIns := [], harness := (true, "e0e9a0d96be856bb5044a96b237fdd4b6d611fe796dd8158262efad99e6ab913"), looks := false }, kinds := [], alts := [], laidByText := true, laidKinds := [.data], laidTests := true, laidLooks := .later }
def FnCheckCardSaid : Prop := Claim7.holds Tryd.pinned (.plain (OpenSpec.ofChange fnCheckSpec)) fnCheckCard

/-- THE TIED CARD OF 'laws.FnExactNodeBytes'. -/
def fnExactNodeBytesCard : Claim7 := { stood := { row := fnExactNodeBytesRow, standIns := [], harness := (true, "e0e9a0d96be856bb5044a96b237fdd4b6d611fe796dd8158262efad99e6ab913"), looks := false }, kinds := [], alts := [], laidByText := true, laidKinds := [.data], laidTests := true, laidLooks := .later }
def FnExactNodeBytesCardSaid : Prop := Claim7.holds Tryd.pinned (.plain (OpenSpec.ofChange fnExactNodeBytesSpec)) fnExactNodeBytesCard

/-- THE TIED CARD OF 'laws.FnExactReadNode'. -/
def fnExactReadNodeCard : Claim7 := { stood := { row := fnExactReadNodeRow, standIns := [], harness := (true, "e0e9a0d96be856bb5044a96b237fdd4b6d611fe796dd8158262efad99e6ab913"), looks := false }, kinds := [], alts := [], laidByText := true, laidKinds := [.data], laidTests := true, laidLooks := .later }
def FnExactReadNodeCardSaid : Prop := Claim7.holds Tryd.pinned (.plain (OpenSpec.ofChange fnExactReadNodeSpec)) fnExactReadNodeCard

/-- THE TIED CARD OF 'laws.FnExactSuperBytes'. -/
def fnExactSuperBytesCard : Claim7 := { stood := { row := fnExactSuperBytesRow, standIns := [], harness := (true, "e0e9a0d96be856bb5044a96b237fdd4b6d611fe796dd8158262efad99e6ab913"), looks := false }, kinds := [], alts := [], laidByText := true, laidKinds := [.data], laidTests := true, laidLooks := .later }
def FnExactSuperBytesCardSaid : Prop := Claim7.holds Tryd.pinned (.plain (OpenSpec.ofChange fnExactSuperBytesSpec)) fnExactSuperBytesCard

/-- THE TIED CARD OF 'laws.FnExactReadSuper'. -/
def fnExactReadSuperCard : Claim7 := { stood := { row := fnExactReadSuperRow, standIns := [], harness := (true, "e0e9a0d96be856bb5044a96b237fdd4b6d611fe796dd8158262efad99e6ab913"), looks := false }, kinds := [], alts := [], laidByText := true, laidKinds := [.data], laidTests := true, laidLooks := .later }
def FnExactReadSuperCardSaid : Prop := Claim7.holds Tryd.pinned (.plain (OpenSpec.ofChange fnExactReadSuperSpec)) fnExactReadSuperCard

/-- THE TIED CARD OF 'laws.FnExactNewStore'. -/
def fnExactNewStoreCard : Claim7 := { stood := { row := fnExactNewStoreRow, standIns := [], harness := (true, "e0e9a0d96be856bb5044a96b237fdd4b6d611fe796dd8158262efad99e6ab913"), looks := false }, kinds := [], alts := [], laidByText := true, laidKinds := [.data], laidTests := true, laidLooks := .later }
def FnExactNewStoreCardSaid : Prop := Claim7.holds Tryd.pinned (.plain (OpenSpec.ofChange fnExactNewStoreSpec)) fnExactNewStoreCard

/-- THE SECOND FORM's CARD OF 'laws.FnCheck'. -/
def fnCheckUptoCard : Claim7 := { stood := { row := fnCheckUptoRow, standIns := [], harness := (true, "e0e9a0d96be856bb5044a96b237fdd4b6d611fe796dd8158262efad99e6ab913"), looks := false }, kinds := [], alts := [], laidByText := true, laidKinds := [.data], laidTests := true, laidLooks := .later }
def FnCheckUptoCardSaid : Prop := Claim7.holds Tryd.pinned (.plain (OpenSpec.upto fnCheckSpec)) fnCheckUptoCard

/-- THE SECOND FORM's CARD OF 'laws.FnExactNodeBytes'. -/
def fnExactNodeBytesUptoCard : Claim7 := { stood := { row := fnExactNodeBytesUptoRow, standIns := [], harness := (true, "e0e9a0d96be856bb5044a96b237fdd4b6d611fe796dd8158262efad99e6ab913"), looks := false }, kinds := [], alts := [], laidByText := true, laidKinds := [.data], laidTests := true, laidLooks := .later }
def FnExactNodeBytesUptoCardSaid : Prop := Claim7.holds Tryd.pinned (.plain (OpenSpec.upto fnExactNodeBytesSpec)) fnExactNodeBytesUptoCard

/-- THE SECOND FORM's CARD OF 'laws.FnExactReadNode'. -/
def fnExactReadNodeUptoCard : Claim7 := { stood := { row := fnExactReadNodeUptoRow, standIns := [], harness := (true, "e0e9a0d96be856bb5044a96b237fdd4b6d611fe796dd8158262efad99e6ab913"), looks := false }, kinds := [], alts := [], laidByText := true, laidKinds := [.data], laidTests := true, laidLooks := .later }
def FnExactReadNodeUptoCardSaid : Prop := Claim7.holds Tryd.pinned (.plain (OpenSpec.upto fnExactReadNodeSpec)) fnExactReadNodeUptoCard

/-- THE SECOND FORM's CARD OF 'laws.FnExactSuperBytes'. -/
def fnExactSuperBytesUptoCard : Claim7 := { stood := { row := fnExactSuperBytesUptoRow, standIns := [], harness := (true, "e0e9a0d96be856bb5044a96b237fdd4b6d611fe796dd8158262efad99e6ab913"), looks := false }, kinds := [], alts := [], laidByText := true, laidKinds := [.data], laidTests := true, laidLooks := .later }
def FnExactSuperBytesUptoCardSaid : Prop := Claim7.holds Tryd.pinned (.plain (OpenSpec.upto fnExactSuperBytesSpec)) fnExactSuperBytesUptoCard

/-- THE SECOND FORM's CARD OF 'laws.FnExactReadSuper'. -/
def fnExactReadSuperUptoCard : Claim7 := { stood := { row := fnExactReadSuperUptoRow, standIns := [], harness := (true, "e0e9a0d96be856bb5044a96b237fdd4b6d611fe796dd8158262efad99e6ab913"), looks := false }, kinds := [], alts := [], laidByText := true, laidKinds := [.data], laidTests := true, laidLooks := .later }
def FnExactReadSuperUptoCardSaid : Prop := Claim7.holds Tryd.pinned (.plain (OpenSpec.upto fnExactReadSuperSpec)) fnExactReadSuperUptoCard

/-- THE SECOND FORM's CARD OF 'laws.FnExactNewStore'. -/
def fnExactNewStoreUptoCard : Claim7 := { stood := { row := fnExactNewStoreUptoRow, standIns := [], harness := (true, "e0e9a0d96be856bb5044a96b237fdd4b6d611fe796dd8158262efad99e6ab913"), looks := false }, kinds := [], alts := [], laidByText := true, laidKinds := [.data], laidTests := true, laidLooks := .later }
def FnExactNewStoreUptoCardSaid : Prop := Claim7.holds Tryd.pinned (.plain (OpenSpec.upto fnExactNewStoreSpec)) fnExactNewStoreUptoCard
end Rows
end Go.Proofs.YtfbomjcjemcgeaaDoor
