/-
  Closed facts of the row of FnExactTreePairs.
  By an AI agent.
-/
import Derived.Test.YtmpkdggboniigaaMem
namespace Go.Proofs.Ytmpkdggboniigaa.fnExactTreePairs
open Go.ChangeShapes Go.WideShapes Go.ChangeAt Go.WideMaps Go.WideElems Go.RowKit Go.Deep
open Go.ChangeMaps (open_string shut_string)
set_option linter.unusedVariables false

set_option maxHeartbeats 8000000 in
theorem closed : joinedFacts Try.prog 14 Try.f14 Rows.fnExactTreePairsSpec Rows.fnExactTreePairsRow = true := by
  unfold joinedFacts
  repeat' (with_reducible refine Bool.and_eq_true_iff.2 ⟨?_, ?_⟩)
  all_goals (as_aux_lemma => kernel_rfl)
theorem inst : Try.f14.isInstance Try.prog Rows.fnExactTreePairsRow.origin Rows.fnExactTreePairsRow.targs := of_decide_eq_true (by kernel_rfl)
theorem wrap : Try.f14.isWrapper Try.prog Rows.fnExactTreePairsRow.wrapper Rows.fnExactTreePairsRow.mainSum := by
  unfold Func.isWrapper; first | (rw [if_pos (by decide +kernel)]; kernel_rfl) | (rw [if_neg (by decide +kernel)]; exact ⟨rfl, rfl⟩)
theorem named : Try.prog.funcNamed Rows.fnExactTreePairsRow.func = some 14 := by kernel_rfl
end Go.Proofs.Ytmpkdggboniigaa.fnExactTreePairs
