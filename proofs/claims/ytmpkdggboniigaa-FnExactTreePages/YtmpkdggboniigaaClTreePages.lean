/-
  Closed facts of the row of FnExactTreePages.
  By an AI agent.
-/
import Derived.Test.YtmpkdggboniigaaMem
namespace Go.Proofs.Ytmpkdggboniigaa.fnExactTreePages
open Go.ChangeShapes Go.WideShapes Go.ChangeAt Go.WideMaps Go.WideElems Go.RowKit Go.Deep
open Go.ChangeMaps (open_string shut_string)
set_option linter.unusedVariables false

set_option maxHeartbeats 8000000 in
theorem closed : joinedFacts Try.prog 18 Try.f18 Rows.fnExactTreePagesSpec Rows.fnExactTreePagesRow = true := by
  unfold joinedFacts
  repeat' (with_reducible refine Bool.and_eq_true_iff.2 ⟨?_, ?_⟩)
  all_goals (as_aux_lemma => kernel_rfl)
theorem inst : Try.f18.isInstance Try.prog Rows.fnExactTreePagesRow.origin Rows.fnExactTreePagesRow.targs := of_decide_eq_true (by kernel_rfl)
theorem wrap : Try.f18.isWrapper Try.prog Rows.fnExactTreePagesRow.wrapper Rows.fnExactTreePagesRow.mainSum := by
  unfold Func.isWrapper; first | (rw [if_pos (by decide +kernel)]; kernel_rfl) | (rw [if_neg (by decide +kernel)]; exact ⟨rfl, rfl⟩)
theorem named : Try.prog.funcNamed Rows.fnExactTreePagesRow.func = some 18 := by kernel_rfl
end Go.Proofs.Ytmpkdggboniigaa.fnExactTreePages
