/-
  Closed facts of the row of FnRestore.
  By an AI agent.
-/
import Derived.Test.YthgbclipknfmjaaGreatDoorMem
import Derived.LaidMore
import Derived.Lay
import Derived.SevenTiedAt
import Derived.WalkSmall
import Derived.Stop.Joined
import Derived.ProofKit
import Derived.OpenShut
namespace Go.Proofs.YthgbclipknfmjaaGreatDoor.fnRestore
open Go.ChangeShapes Go.WideShapes Go.ChangeAt Go.WideMaps Go.WideElems Go.RowKit Go.Deep
open Go.ChangeMaps (open_string shut_string)
set_option linter.unusedVariables false

set_option maxHeartbeats 8000000 in
theorem closed : joinedFacts Tryz.prog 4 Tryz.f4 Rows.fnRestoreSpec Rows.fnRestoreRow = true := by
  unfold joinedFacts
  repeat' (with_reducible refine Bool.and_eq_true_iff.2 ⟨?_, ?_⟩)
  all_goals (as_aux_lemma => kernel_rfl)
theorem inst : Tryz.f4.isInstance Tryz.prog Rows.fnRestoreRow.origin Rows.fnRestoreRow.targs := of_decide_eq_true (by kernel_rfl)
theorem wrap : Tryz.f4.isWrapper Tryz.prog Rows.fnRestoreRow.wrapper Rows.fnRestoreRow.mainSum := by
  unfold Func.isWrapper; first | (rw [if_pos (by decide +kernel)]; kernel_rfl) | (rw [if_neg (by decide +kernel)]; exact ⟨rfl, rfl⟩)
theorem named : Tryz.prog.funcNamed Rows.fnRestoreRow.func = some 4 := by kernel_rfl
set_option maxRecDepth 100000 in
theorem shapedAll (os : Os) : (World.laidAll Tryz.prog os Rows.fnRestoreRow.laid).Shaped Tryz.prog := World.shaped_of_ZipB (by kernel_rfl) (by kernel_rfl)
set_option maxRecDepth 100000 in
theorem laidAllMet (os : Os) (args : Array Value) : laidMet Tryz.prog Rows.fnRestoreRow.laid ((World.laidAll Tryz.prog os Rows.fnRestoreRow.laid).forCall (fun _ _ => 0) ⟨#[], args, []⟩).memory := laidMet_laidAll _ (by kernel_rfl) (by kernel_rfl)
end Go.Proofs.YthgbclipknfmjaaGreatDoor.fnRestore
