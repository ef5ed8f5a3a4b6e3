/-
  Closed facts of the row of FnMessage.
  By an AI agent.
-/
import Derived.Test.YtgbhjhbmolgbeaaDoorMem
import Derived.LaidMore
import Derived.Lay
import Derived.SevenTiedAt
import Derived.WalkSmall
import Derived.Stop.Joined
import Derived.ProofKit
import Derived.OpenShut
namespace Go.Proofs.YtgbhjhbmolgbeaaDoor.fnMessage
open Go.ChangeShapes Go.WideShapes Go.ChangeAt Go.WideMaps Go.WideElems Go.RowKit Go.Deep
open Go.ChangeMaps (open_string shut_string)
set_option linter.unusedVariables false

set_option maxHeartbeats 8000000 in
theorem closed : joinedFacts Tryd.prog 3 Tryd.f3 Rows.fnMessageSpec Rows.fnMessageRow = true := by
  unfold joinedFacts
  repeat' (with_reducible refine Bool.and_eq_true_iff.2 ⟨?_, ?_⟩)
  all_goals (as_aux_lemma => kernel_rfl)
theorem inst : Tryd.f3.isInstance Tryd.prog Rows.fnMessageRow.origin Rows.fnMessageRow.targs := of_decide_eq_true (by kernel_rfl)
theorem wrap : Tryd.f3.isWrapper Tryd.prog Rows.fnMessageRow.wrapper Rows.fnMessageRow.mainSum := by
  unfold Func.isWrapper; first | (rw [if_pos (by decide +kernel)]; kernel_rfl) | (rw [if_neg (by decide +kernel)]; exact ⟨rfl, rfl⟩)
theorem named : Tryd.prog.funcNamed Rows.fnMessageRow.func = some 3 := by kernel_rfl
set_option maxRecDepth 100000 in
theorem shapedAll (os : Os) : (World.laidAll Tryd.prog os Rows.fnMessageRow.laid).Shaped Tryd.prog := World.shaped_of_ZipB (by kernel_rfl) (by kernel_rfl)
set_option maxRecDepth 100000 in
theorem laidAllMet (os : Os) (args : Array Value) : laidMet Tryd.prog Rows.fnMessageRow.laid ((World.laidAll Tryd.prog os Rows.fnMessageRow.laid).forCall (fun _ _ => 0) ⟨#[], args, []⟩).memory := laidMet_laidAll _ (by kernel_rfl) (by kernel_rfl)
end Go.Proofs.YtgbhjhbmolgbeaaDoor.fnMessage
