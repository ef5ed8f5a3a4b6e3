/-
  DERIVED. GIVEN WITH THE SEED: THE CARDS: each row of YtmbndpgoihdpnaaGreatDoorRows.lean that lists a variable, with what it lists TIED to the program's text (the seventh form; the later family's looks); each row that meets fmt, with fmt's text TOLD by the authors' own Lean function (tested against real Go, not proved from fmt's source: count such statements apart). THE CARD IS WHAT COUNTS. Prove the row's statement (the work); the ties are given (YtmbndpgoihdpnaaGreatDoorTie.lean); close each card by the builder's one call (the guide's Derived/Test/ToyasCard.lean, 'card_holds'). Laid BY PROGRAM, IN A SANDBOX (cutbox-door.mjs). By AI agents, Wed Nov 11 2026. No macro, syntax, notation, axiom, sorry.
-/
import Derived.Test.YtmbndpgoihdpnaaGreatDoorRows
import GoSem.ClaimSeven
namespace Go.Proofs.YtmbndpgoihdpnaaGreatDoor
namespace Rows

/-- THE TIED CARD OF 'laws.FnExactReplay'. -/
def fnExactReplayCard : Claim7 := { stood := { row := fnExactReplayRow, standIns := [], harness := (true, "b5fb8c5946ae3e5c4bbff1b0de775a9fb7062fc174a20c2442d212d285fb7189"), looks := true }, kinds := [], alts := [], laidByText := true, laidKinds := [.handle, .data, .sentinel], laidTests := true, laidLooks := .later }
def FnExactReplayCardSaid : Prop := Claim7.holds Tryz.pinned (.plain (OpenSpec.ofChange fnExactReplaySpec)) fnExactReplayCard

/-- THE TIED CARD OF 'laws.FnExactReplayAll'. -/
def fnExactReplayAllCard : Claim7 := { stood := { row := fnExactReplayAllRow, standIns := [], harness := (true, "b5fb8c5946ae3e5c4bbff1b0de775a9fb7062fc174a20c2442d212d285fb7189"), looks := true }, kinds := [], alts := [], laidByText := true, laidKinds := [.handle, .data, .sentinel], laidTests := true, laidLooks := .later }
def FnExactReplayAllCardSaid : Prop := Claim7.holds Tryz.pinned (.plain (OpenSpec.ofChange fnExactReplayAllSpec)) fnExactReplayAllCard

/-- THE TIED CARD OF 'laws.FnExactRestoreArchive'. -/
def fnExactRestoreArchiveCard : Claim7 := { stood := { row := fnExactRestoreArchiveRow, standIns := [], harness := (true, "b5fb8c5946ae3e5c4bbff1b0de775a9fb7062fc174a20c2442d212d285fb7189"), looks := true }, kinds := [], alts := [], laidByText := true, laidKinds := [.handle, .data, .sentinel, .sentinel], laidTests := true, laidLooks := .later }
def FnExactRestoreArchiveCardSaid : Prop := Claim7.holds Tryz.pinned (.plain (OpenSpec.ofChange fnExactRestoreArchiveSpec)) fnExactRestoreArchiveCard

/-- THE TIED CARD OF 'laws.FnReplay'. -/
def fnReplayCard : Claim7 := { stood := { row := fnReplayRow, standIns := [], harness := (true, "b5fb8c5946ae3e5c4bbff1b0de775a9fb7062fc174a20c2442d212d285fb7189"), looks := true }, kinds := [], alts := [], laidByText := true, laidKinds := [.handle, .data, .sentinel], laidTests := true, laidLooks := .later }
def FnReplayCardSaid : Prop := Claim7.holds Tryz.pinned (.plain (OpenSpec.ofChange fnReplaySpec)) fnReplayCard

/-- THE SECOND FORM's CARD OF 'laws.FnExactReplay'. -/
def fnExactReplayUptoCard : Claim7 := { stood := { row := fnExactReplayUptoRow, standIns := [], harness := (true, "b5fb8c5946ae3e5c4bbff1b0de775a9fb7062fc174a20c2442d212d285fb7189"), looks := true }, kinds := [], alts := [], laidByText := true, laidKinds := [.handle, .data, .sentinel], laidTests := true, laidLooks := .later }
def FnExactReplayUptoCardSaid : Prop := Claim7.holds Tryz.pinned (.plain (OpenSpec.upto fnExactReplaySpec)) fnExactReplayUptoCard

/-- THE SECOND FORM's CARD OF 'laws.FnExactReplayAll'. -/
def fnExactReplayAllUptoCard : Claim7 := { stood := { row := fnExactReplayAllUptoRow, standIns := [], harness := (true, "b5fb8c5946ae3e5c4bbff1b0de775a9fb7062fc174a20c2442d212d285fb7189"), looks := true }, kinds := [], alts := [], laidByText := true, laidKinds := [.handle, .data, .sentinel], laidTests := true, laidLooks := .later }
def FnExactReplayAllUptoCardSaid : Prop := Claim7.holds Tryz.pinned (.plain (OpenSpec.upto fnExactReplayAllSpec)) fnExactReplayAllUptoCard

/-- THE SECOND FORM's CARD OF 'laws.FnExactRestoreArchive'. -/
def fnExactRestoreArchiveUptoCard : Claim7 := { stood := { row := fnExactRestoreArchiveUptoRow, standIns := [], harness := (true, "b5fb8c5946ae3e5c4bbff1b0de775a9fb7062fc174a20c2442d212d285fb7189"), looks := true }, kinds := [], alts := [], laidByText := true, laidKinds := [.handle, .data, .sentinel, .sentinel], laidTests := true, laidLooks := .later }
def FnExactRestoreArchiveUptoCardSaid : Prop := Claim7.holds Tryz.pinned (.plain (OpenSpec.upto fnExactRestoreArchiveSpec)) fnExactRestoreArchiveUptoCard

/-- THE SECOND FORM's CARD OF 'laws.FnReplay'. -/
def fnReplayUptoCard : Claim7 := { stood := { row := fnReplayUptoRow, standIns := [], harness := (true, "b5fb8c5946ae3e5c4bbff1b0de775a9fb7062fc174a20c2442d212d285fb7189"), looks := true }, kinds := [], alts := [], laidByText := true, laidKinds := [.handle, .data, .sentinel], laidTests := true, laidLooks := .later }
def FnReplayUptoCardSaid : Prop := Claim7.holds Tryz.pinned (.plain (OpenSpec.upto fnReplaySpec)) fnReplayUptoCard
end Rows
end Go.Proofs.YtmbndpgoihdpnaaGreatDoor
