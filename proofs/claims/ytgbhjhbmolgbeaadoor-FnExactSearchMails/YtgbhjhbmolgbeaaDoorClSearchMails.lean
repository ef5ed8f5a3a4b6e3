/-
  Closed facts of the row of FnExactSearchMails.
  By an AI agent.
-/
import Derived.Test.YtgbhjhbmolgbeaaDoorMem
import Derived.LaidMore
import Derived.Lay
import Derived.SevenTiedAt
import Derived.WalkSmall
import Derived.Stop.Joined
import Derived.ProofKit
import Derived.OpenShut
namespace Go.Proofs.YtgbhjhbmolgbeaaDoor.fnExactSearchMails
open Go.ChangeShapes Go.WideShapes Go.ChangeAt Go.WideMaps Go.WideElems Go.RowKit Go.Deep
open Go.ChangeMaps (open_string shut_string)
set_option linter.unusedVariables false

set_option maxHeartbeats 8000000 in
theorem closed : joinedFacts Tryd.prog 8 Tryd.f8 Rows.fnExactSearchMailsSpec Rows.fnExactSearchMailsRow = true := by
  unfold joinedFacts
  repeat' (with_reducible refine Bool.and_eq_true_iff.2 ⟨?_, ?_⟩)
  all_goals (as_aux_lemma => kernel_rfl)
theorem inst : Tryd.f8.isInstance Tryd.prog Rows.fnExactSearchMailsRow.origin Rows.fnExactSearchMailsRow.targs := of_decide_eq_true (by kernel_rfl)
theorem wrap : Tryd.f8.isWrapper Tryd.prog Rows.fnExactSearchMailsRow.wrapper Rows.fnExactSearchMailsRow.mainSum := by
  unfold Func.isWrapper; first | (rw [if_pos (by decide +kernel)]; kernel_rfl) | (rw [if_neg (by decide +kernel)]; exact ⟨rfl, rfl⟩)
theorem named : Tryd.prog.funcNamed Rows.fnExactSearchMailsRow.func = some 8 := by kernel_rfl
set_option maxRecDepth 100000 in
theorem shapedAll (os : Os) : (World.laidAll Tryd.prog os Rows.fnExactSearchMailsRow.laid).Shaped Tryd.prog := World.shaped_of_ZipB (by kernel_rfl) (by kernel_rfl)
set_option maxRecDepth 100000 in
theorem laidAllMet (os : Os) (args : Array Value) : laidMet Tryd.prog Rows.fnExactSearchMailsRow.laid ((World.laidAll Tryd.prog os Rows.fnExactSearchMailsRow.laid).forCall (fun _ _ => 0) ⟨#[], args, []⟩).memory := laidMet_laidAll _ (by kernel_rfl) (by kernel_rfl)
end Go.Proofs.YtgbhjhbmolgbeaaDoor.fnExactSearchMails
