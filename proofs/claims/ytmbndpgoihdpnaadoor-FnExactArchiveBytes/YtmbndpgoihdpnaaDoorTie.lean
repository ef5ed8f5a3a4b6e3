/-
  DERIVED. GIVEN WITH THE SEED: THE PROGRAM's TIES (one call each: nine closed facts by the kernel) AND EACH ROW's TIE, after the 31st guide's Derived/Test/Toyas{Tie, Card}.lean. No idea stands in it: it is a product of the set-up. Laid BY PROGRAM, IN A SANDBOX (cutbox-door.mjs). By AI agents, Wed Nov 11 2026. No macro, syntax, notation, axiom, sorry.
-/
import Derived.Test.YtmbndpgoihdpnaaDoorRows
import Derived.LaidByTextLater
import Derived.SevenTiedAt
import Derived.LaidSub
import Derived.LaidOnce
namespace Go.Proofs.YtmbndpgoihdpnaaDoor
open Go
set_option maxRecDepth 100000
theorem seatTie1 : Tryd.prog.laidByTextLater [("errors.errorType", Rows.laid_errors_errorType), ("loop.example/g00340/impl.halfSums", Rows.laid_loop_example_g00340_impl_halfSums), ("loop.example/g00340/impl.errForm", Rows.laid_loop_example_g00340_impl_errForm), ("loop.example/g00340/impl.errLink", Rows.laid_loop_example_g00340_impl_errLink)] [.handle, .data, .sentinel, .sentinel] true :=
  Program.laidByTextLater_by_one 59 8 17 (by kernel_rfl) (by kernel_rfl) (by kernel_rfl) (by kernel_rfl) (by kernel_rfl) (by kernel_rfl) (fun _ _ => by kernel_rfl)
theorem noOwnUnsafe : Tryd.pinned.checked.prog.headLifts.contains "ownunsafe" = false := by kernel_rfl
theorem tie : Tryd.prog.laidByTextLater [("loop.example/g00340/impl.halfSums", Rows.laid_loop_example_g00340_impl_halfSums)] [.data] true :=
  Program.laidByTextLater.sub seatTie1 ["loop.example/g00340/impl.halfSums"] (by kernel_rfl) (by kernel_rfl)
theorem fnExactArchiveBytes_row_tie : Rows.fnExactArchiveBytesRow.laidByTextAt .later Tryd.pinned [.data] true :=
  OpenClaim.laidByTextAt_later rfl rfl tie noOwnUnsafe
theorem tie2 : Tryd.prog.laidByTextLater [("errors.errorType", Rows.laid_errors_errorType), ("loop.example/g00340/impl.halfSums", Rows.laid_loop_example_g00340_impl_halfSums), ("loop.example/g00340/impl.errForm", Rows.laid_loop_example_g00340_impl_errForm), ("loop.example/g00340/impl.errLink", Rows.laid_loop_example_g00340_impl_errLink)] [.handle, .data, .sentinel, .sentinel] true :=
  Program.laidByTextLater.sub seatTie1 ["errors.errorType", "loop.example/g00340/impl.halfSums", "loop.example/g00340/impl.errForm", "loop.example/g00340/impl.errLink"] (by kernel_rfl) (by kernel_rfl)
theorem fnExactReadBackup_row_tie : Rows.fnExactReadBackupRow.laidByTextAt .later Tryd.pinned [.handle, .data, .sentinel, .sentinel] true :=
  OpenClaim.laidByTextAt_later rfl rfl tie2 noOwnUnsafe
theorem fnBackup_row_tie : Rows.fnBackupRow.laidByTextAt .later Tryd.pinned [.handle, .data, .sentinel, .sentinel] true :=
  OpenClaim.laidByTextAt_later rfl rfl tie2 noOwnUnsafe
theorem fnExactArchiveBytesUpto_row_tie : Rows.fnExactArchiveBytesUptoRow.laidByTextAt .later Tryd.pinned [.data] true :=
  OpenClaim.laidByTextAt_later rfl rfl tie noOwnUnsafe
theorem fnExactReadBackupUpto_row_tie : Rows.fnExactReadBackupUptoRow.laidByTextAt .later Tryd.pinned [.handle, .data, .sentinel, .sentinel] true :=
  OpenClaim.laidByTextAt_later rfl rfl tie2 noOwnUnsafe
theorem fnBackupUpto_row_tie : Rows.fnBackupUptoRow.laidByTextAt .later Tryd.pinned [.handle, .data, .sentinel, .sentinel] true :=
  OpenClaim.laidByTextAt_later rfl rfl tie2 noOwnUnsafe
end Go.Proofs.YtmbndpgoihdpnaaDoor
