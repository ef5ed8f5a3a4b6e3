/-
  DERIVED. GIVEN WITH THE SEED: THE PROGRAM's TIES (one call each: nine closed facts by the kernel) AND EACH ROW's TIE, after the 31st guide's Derived/Test/Toyas{Tie, Card}.lean. No idea stands in it: it is a product of the set-up. Laid BY PROGRAM, IN A SANDBOX (cutbox-door.mjs). By AI agents, Wed Nov 11 2026. No macro, syntax, notation, axiom, sorry.
-/
import Derived.Test.YtmbndpgoihdpnaaGreatDoorRows
import Derived.LaidByTextLater
import Derived.SevenTiedAt
import Derived.LaidSub
import Derived.LaidOnce
namespace Go.Proofs.YtmbndpgoihdpnaaGreatDoor
open Go
set_option maxRecDepth 100000
theorem seatTie1 : Tryz.prog.laidByTextLater [("errors.errorType", Rows.laid_errors_errorType), ("loop.example/g00340/impl.halfSums", Rows.laid_loop_example_g00340_impl_halfSums), ("loop.example/g00340/impl.errForm", Rows.laid_loop_example_g00340_impl_errForm), ("loop.example/g00340/impl.errLink", Rows.laid_loop_example_g00340_impl_errLink)] [.handle, .data, .sentinel, .sentinel] true :=
  Program.laidByTextLater_by_one 59 8 17 (by kernel_rfl) (by kernel_rfl) (by kernel_rfl) (by kernel_rfl) (by kernel_rfl) (by kernel_rfl) (fun _ _ => by kernel_rfl)
theorem noOwnUnsafe : Tryz.pinned.checked.prog.headLifts.contains "ownunsafe" = false := by kernel_rfl
theorem tie : Tryz.prog.laidByTextLater [("errors.errorType", Rows.laid_errors_errorType), ("loop.example/g00340/impl.halfSums", Rows.laid_loop_example_g00340_impl_halfSums), ("loop.example/g00340/impl.errLink", Rows.laid_loop_example_g00340_impl_errLink)] [.handle, .data, .sentinel] true :=
  Program.laidByTextLater.sub seatTie1 ["errors.errorType", "loop.example/g00340/impl.halfSums", "loop.example/g00340/impl.errLink"] (by kernel_rfl) (by kernel_rfl)
theorem fnExactReplay_row_tie : Rows.fnExactReplayRow.laidByTextAt .later Tryz.pinned [.handle, .data, .sentinel] true :=
  OpenClaim.laidByTextAt_later rfl rfl tie noOwnUnsafe
theorem fnExactReplayAll_row_tie : Rows.fnExactReplayAllRow.laidByTextAt .later Tryz.pinned [.handle, .data, .sentinel] true :=
  OpenClaim.laidByTextAt_later rfl rfl tie noOwnUnsafe
theorem fnReplay_row_tie : Rows.fnReplayRow.laidByTextAt .later Tryz.pinned [.handle, .data, .sentinel] true :=
  OpenClaim.laidByTextAt_later rfl rfl tie noOwnUnsafe
theorem tie2 : Tryz.prog.laidByTextLater [("errors.errorType", Rows.laid_errors_errorType), ("loop.example/g00340/impl.halfSums", Rows.laid_loop_example_g00340_impl_halfSums), ("loop.example/g00340/impl.errForm", Rows.laid_loop_example_g00340_impl_errForm), ("loop.example/g00340/impl.errLink", Rows.laid_loop_example_g00340_impl_errLink)] [.handle, .data, .sentinel, .sentinel] true :=
  Program.laidByTextLater.sub seatTie1 ["errors.errorType", "loop.example/g00340/impl.halfSums", "loop.example/g00340/impl.errForm", "loop.example/g00340/impl.errLink"] (by kernel_rfl) (by kernel_rfl)
theorem fnExactRestoreArchive_row_tie : Rows.fnExactRestoreArchiveRow.laidByTextAt .later Tryz.pinned [.handle, .data, .sentinel, .sentinel] true :=
  OpenClaim.laidByTextAt_later rfl rfl tie2 noOwnUnsafe
theorem fnExactReplayUpto_row_tie : Rows.fnExactReplayUptoRow.laidByTextAt .later Tryz.pinned [.handle, .data, .sentinel] true :=
  OpenClaim.laidByTextAt_later rfl rfl tie noOwnUnsafe
theorem fnExactReplayAllUpto_row_tie : Rows.fnExactReplayAllUptoRow.laidByTextAt .later Tryz.pinned [.handle, .data, .sentinel] true :=
  OpenClaim.laidByTextAt_later rfl rfl tie noOwnUnsafe
theorem fnExactRestoreArchiveUpto_row_tie : Rows.fnExactRestoreArchiveUptoRow.laidByTextAt .later Tryz.pinned [.handle, .data, .sentinel, .sentinel] true :=
  OpenClaim.laidByTextAt_later rfl rfl tie2 noOwnUnsafe
theorem fnReplayUpto_row_tie : Rows.fnReplayUptoRow.laidByTextAt .later Tryz.pinned [.handle, .data, .sentinel] true :=
  OpenClaim.laidByTextAt_later rfl rfl tie noOwnUnsafe
end Go.Proofs.YtmbndpgoihdpnaaGreatDoor
